import Derived.Test.YtlbbabojejimpaaQTbAuras
import Derived.Test.YtlbbabojejimpaaQTbD
import Derived.Lib.QuietBelowIn
/- A region that draws its order, within a round of a loop over a function; a table's lists where cells stay; might.of of any selector. -/
namespace Go.Proofs.Ytlbbabojejimpaa
open Go.RowKit Go.Lib Go.Shelf Go.Sort

def noDefer (o : Oper) : Bool := match o.op with
  | .defer _ => false
  | _ => true
section
variable {F : Fence} {n : Nat} {P : Program} {md : Region.Mode} {ops : Array Oper} {Q : Exit → Act → World → Prop}
theorem opIn_round {o : Oper} {a : Act} {w : World} {K K' : Act → World → Prop} {l : Nat} (hro : F.round = none) (hd : noDefer o = true) (hK : ∀ a w, K a w → K' a w) (h : o.wpIn F n P a w K Q) : o.wpIn (F.inRound l) n P a w K' Q := by
  have h := Oper.wpIn_mono hK h
  unfold Oper.wpIn at h ⊢
  rw [hro, Oper.semAt_none] at h
  rw [Oper.semAt_eq _ _ _ (fun c hc => by simp [noDefer, hc] at hd)]
  exact h
theorem anyIn_round {l : Nat} (hro : F.round = none) (hd : ∀ (i : Nat) (o : Oper), ops[i]? = some o → noDefer o = true) : ∀ (fuel : Nat) (listed : Array Bool) (a : Act) (w : World), wpAnyIn F n P md ops Q fuel listed a w → wpAnyIn (F.inRound l) n P md ops Q fuel listed a w
  | 0, _, _, _, h => h
  | fuel + 1, listed, a, w, h => ⟨h.1, fun i hi => by
    have h2 := h.2 i hi
    unfold wpOpIn at h2 ⊢
    split
    · rename_i e; simp only [e] at h2; exact anyIn_round hro hd fuel _ _ _ h2
    · rename_i o e
      simp only [e] at h2
      split
      · rename_i hw; simp only [hw, if_true] at h2; exact opIn_round hro (hd i o e) (fun a w => anyIn_round hro hd fuel _ a w) h2
      · rename_i hw; simp only [hw] at h2; exact ⟨h2.1, anyIn_round hro hd fuel _ _ _ h2.2⟩⟩
theorem region_round {id : Nat} {a : Act} {w : World} {ls : List Oper} {l : Nat} (hro : F.round = none) (hm : P.follows .mixedOrders = true) (hB : Region.lexB .any ls.toArray = true) (hd : ls.all noDefer = true)
    (h : wpQuietIn F n P ls.toArray (fun w' => ∃ p : Regrown, w' = grow (redrawn w p.d) p.os) (fun a' => ∀ w', (∃ p : Regrown, w' = grow (redrawn w p.d) p.os) → Q .normal a' w') ls a) : (Code.region id ls.toArray true).wpIn (F.inRound l) n P Q a w := by
  simp only [Region.lexB, Bool.and_eq_true] at hB
  refine wpIn_region_any hm (anyIn_round hro (fun i o ho => List.all_eq_true.1 hd o (List.mem_of_getElem? (by simpa using ho))) _ _ _ _
    (wpAnyIn_of_quiet (C := fun w' => ∃ p : Regrown, w' = grow (redrawn w p.d) p.os) (Q := fun a' => ∀ w', (∃ p : Regrown, w' = grow (redrawn w p.d) p.os) → Q .normal a' w') hro (fun _ w' hw' h => h w' hw') _ _ _ _ ⟨⟨w.drawn + 1, #[]⟩, by rw [grow_empty]; rfl⟩ ?_))
  have := wpAnyQIn_lex (F := F) (n := n) (C := fun w' => ∃ p : Regrown, w' = grow (redrawn w p.d) p.os) (md := .any) hB.1 ls 0 (Array.replicate ls.toArray.size false) a (by simp) (by simpa using hB.2) h
  simpa using this
end

/-- Whatever cell holds something holds it still. -/
def CK (w w' : World) : Prop := ∀ a v, w.cell? a = some v → w'.cell? a = some v
theorem KpC.ck {R : Nat} {w w' : World} (h : KpC R w w') (hR : w.heap.size ≤ R) : CK w w' := fun a v hc => h.cell (by have := World.block_lt_of_cell? _ _ hc; show a.block ≠ R; omega) hc
theorem RowIn.ck {α : Type} {w w' : World} {size B : Nat} {P P' : World → List Value → α → Prop} {v : Value} {xs : List α} (hP : ∀ c x, P w c x → P' w' c x) (h : RowIn w size B P v xs) (hk : CK w w') : RowIn w' size B P' v xs := by
  obtain ⟨q, c, hv, hl, hm, h⟩ := h
  refine ⟨q, c, hv, hl, hm, fun i x hx => ?_⟩
  obtain ⟨g, o, hq, cs, hs, hp, hc⟩ := h i x hx
  exact ⟨g, o, hq, cs, hs, hP _ _ hp, fun j u hu => hk _ _ (hc j u hu)⟩
theorem ExIn.ck (f : Nat) {w w' : World} (hk : CK w w') : ∀ d c x, ExIn f d w c x → ExIn f d w' c x
  | 0, _, _, h => h
  | d + 1, _, _, ⟨va, hc, hr⟩ => ⟨va, hc, RowIn.ck (fun c x => ExIn.ck f hk d c x) hr hk⟩
theorem CdIn.ck (f d : Nat) {w w' : World} (hk : CK w w') (c : List Value) (x : Cd) (h : CdIn f d w c x) : CdIn f d w' c x := by
  obtain ⟨ve, hc, hn, h⟩ := h
  refine ⟨ve, hc, hn, RowIn.ck (fun c x h => ?_) h hk⟩
  obtain ⟨vc, vs, hc, h1, h2⟩ := h
  refine ⟨vc, vs, hc, RowIn.ck (fun c x => ExIn.ck f hk d c x) h1 hk, RowIn.ck (fun c x h => ?_) h2 hk⟩
  obtain ⟨ce, hc, he⟩ := h
  exact ⟨ce, hc, ExIn.ck f hk d _ _ he⟩
theorem TabIn.ck {w w' : World} {t : Tb} {xs : List Cd} {ps : List Pc} (h : TabIn w t xs ps) (hk : CK w w') : TabIn w' t xs ps :=
  ⟨h.kinds.imp fun D h => RowIn.ck (fun c x => CdIn.ck 0 D hk c x) h hk, RowIn.ck (w := w) (w' := w') (P := PcIn) (P' := PcIn) (fun _ _ h => h) h.pieces hk, h.few⟩

theorem of_any (t : Tb) (xs : List Cd) (ps : List Pc) (i : Nat) (p : Pc) (who : Nat) (fr : Int) (s : Sl) (w : World) (hT : TabIn w t xs ps) (hi : ps[i]? = some p) (hz : p.zn ≤ 7) :
    Calls Try.prog 41 #[.agg t.row, .int .u8 who, .int .i64 fr, .agg #[.int .u8 s.side, .int .u8 s.zone, .int .u8 s.kind], .int .i64 i] w fun e w' => e = .returned (.bool (ofB xs p who fr s i)) ∧ Below w.heap.size w w' := by
  by_cases h1 : p.zn = s.zone
  · cases h2 : sideB s.side who fr p.hs i with
    | false => exact of_side t xs ps i p who fr s w hT hi hz h1 h2
    | true =>
      by_cases h3 : s.kind = 0
      · exact of_all t xs ps i p who fr s w hT hi hz h1 h2 h3
      · cases h4 : seenB p with
        | true => exact of_kind t xs ps i p who fr s w hT hi hz h1 h2 h3 h4
        | false => exact of_blind t xs ps i p who fr s w hT hi hz h1 h2 h3 h4
  · exact of_zone t xs ps i p who fr s w hT hi hz h1
