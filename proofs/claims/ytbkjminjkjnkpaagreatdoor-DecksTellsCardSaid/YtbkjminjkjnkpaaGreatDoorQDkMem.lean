import Derived.Test.YtbkjminjkjnkpaaGreatDoorQDkInts
import Derived.Test.YtbkjminjkjnkpaaGreatDoorQDkMath
import Derived.Test.YtbkjminjkjnkpaaGreatDoorQAtoiNum
import Derived.Maps.OwnSet
import Derived.Maps.Views
import Derived.StringKeys
/- Layer 5 (decks): maps, kinds, a reader of decks in memory. -/
namespace Go.Proofs.YtbkjminjkjnkpaaGreatDoor
open Go.RowKit Go.Lib

/-! ### maps -/
/-- A map from names to places. -/
def PlacesAt (w : World) (M : Nat) (f : ByteArray → Option Nat) (n : Nat) : Prop :=
  ∃ D : DataW Unit, w.ownsMap Tryz.prog 9 (plainElem Tryz.prog 3) M n D ∧ ∀ x : ByteArray, x.size ≤ maxLen → Maps.has D (.string x.data.toList) = (f x).isSome ∧ ∀ k, f x = some k → ∀ z, D.atKey (.string x.data.toList) z = .lit (.int .i64 (k : Int))
theorem map_same {w w' : World} {P : Program} {k : TypeId} {R : Value → Option (DataW Unit × List MemPlace)} {b n : Nat} {D : DataW Unit} (h : w.ownsMap P k R b n D) (hb : w'.heap[b]? = w.heap[b]?) : w'.ownsMap P k R b n D := by
  obtain ⟨es, ck, hh, r⟩ := h
  exact ⟨es, ck, hb.trans hh, r⟩
theorem PlacesAt.same {w w' : World} {M : Nat} {f : ByteArray → Option Nat} {n : Nat} (h : PlacesAt w M f n) (hb : w'.heap[M]? = w.heap[M]?) : PlacesAt w' M f n := by
  obtain ⟨D, h1, h2⟩ := h
  exact ⟨D, map_same h1 hb, h2⟩
theorem PlacesAt.lt {w : World} {M : Nat} {f : ByteArray → Option Nat} {n : Nat} (h : PlacesAt w M f n) : M < w.heap.size := h.choose_spec.1.lt
theorem zero_int (w : World) : (zeroValue 3).run Tryz.prog w = .ok (.int .i64 0) w := by kernel_rfl
theorem places_look {w : World} {M : Nat} {f : ByteArray → Option Nat} {n : Nat} (h : PlacesAt w M f n) (x : ByteArray) (hx : x.size ≤ maxLen) :
    (Instr.lookup 59 (.map (some M)) (.string x) true).run Tryz.prog w = .ok (.tuple #[.int .i64 ((f x).getD 0 : Nat), .bool (f x).isSome]) w := by
  obtain ⟨D, ho, hf⟩ := h
  obtain ⟨h1, h2⟩ := hf x hx
  obtain ⟨v, ps, hr, hv⟩ := ho.look_ok (Maps.string_keyed Tryz.underlying9) Tryz.underlying59 (zero_int w) (plainElem_int (H := Unit) Tryz.underlying3 (a := 0) (by decide)) (WideMaps.keyOf_string_mk Tryz.underlying9 hx)
  obtain ⟨a, rfl, ha, -⟩ := plainElem_int_inv Tryz.underlying3 hv
  rw [hr, h1]
  simp only [Prod.mk.injEq] at ha
  cases hfx : f x with
  | none =>
    rw [hfx] at h1
    rw [Maps.atKey_of_not_has h1] at ha
    obtain ⟨ha, -⟩ := ha
    cases ha
    rfl
  | some k =>
    rw [h2 k hfx] at ha
    obtain ⟨ha, -⟩ := ha
    cases ha
    rfl
theorem str_key (x : ByteArray) : WideAt.IsKeyLit (.string x.data.toList) := by simp [WideAt.IsKeyLit]
theorem wf_small (k : Nat) (h : k ≤ maxLen) : (Lit.int .i64 (k : Int)).wf = true := by
  unfold maxLen at h
  have e1 : IntKind.i64.min = -9223372036854775808 := by decide
  have e2 : IntKind.i64.max = 9223372036854775807 := by decide
  simp [Lit.wf, e1]; omega
theorem data_inj {x y : ByteArray} (h : x.data.toList = y.data.toList) : x = y := by
  cases x; cases y; congr; exact Array.toList_inj.1 h
theorem places_store {w : World} {M : Nat} {f : ByteArray → Option Nat} {n : Nat} (h : PlacesAt w M f n) (hn : n < maxLen) (x : ByteArray) (hx : x.size ≤ maxLen) (k : Nat) (hk : k ≤ maxLen) :
    ∃ w', (Instr.mapUpdate 59 (.map (some M)) (.string x) (.int .i64 (k : Int))).run Tryz.prog w = .ok () w' ∧ PlacesAt w' M (fun y => if y = x then some k else f y) (n + 1) ∧ w.grownBy w' (some M) := by
  obtain ⟨D, ho, hf⟩ := h
  obtain ⟨w', hr, ho', ht⟩ := ho.store (Maps.string_keyed Tryz.underlying9) Tryz.underlying59 hn (WideMaps.keyOf_string_mk Tryz.underlying9 hx) (plainElem_int (H := Unit) Tryz.underlying3 (wf_small k hk))
  refine ⟨w', hr, ⟨_, ho', fun y hy => ?_⟩, ht.grown⟩
  have him := (ho.isMap)
  by_cases he : y = x
  · subst he
    simp only [if_true]
    exact ⟨Maps.has_put_same him (str_key y) _, fun k' hk' z => by cases hk'; exact Maps.atKey_put_same him (str_key y) _ z⟩
  · simp only [if_neg he]
    have hne : (Lit.string y.data.toList) ≠ .string x.data.toList := fun e => he (data_inj (Lit.string.inj e))
    obtain ⟨a, b⟩ := hf y hy
    exact ⟨by rw [Maps.has_put_other hne]; exact a, fun k' hk' z => by rw [Maps.atKey_put_other hne]; exact b k' hk' z⟩
theorem places_new (w : World) : PlacesAt (w.alloc (.map #[] 0)) w.heap.size (fun _ => none) 0 :=
  ⟨_, World.ownsMap_made w _ _ _, fun x _ => ⟨rfl, fun k hk => by cases hk⟩⟩

/-- A map from places to how often. -/
def ToldAt (w : World) (M : Nat) (out : List Nat) (n : Nat) : Prop :=
  ∃ D : DataW Unit, w.ownsMap Tryz.prog 3 (plainElem Tryz.prog 3) M n D ∧ ∀ k : Nat, ∃ c : Int, D.atKey (.int .i64 (k : Int)) (.lit (.int .i64 0)) = .lit (.int .i64 c) ∧ (0 < c ↔ k ∈ out)
theorem ToldAt.same {w w' : World} {M : Nat} {out : List Nat} {n : Nat} (h : ToldAt w M out n) (hb : w'.heap[M]? = w.heap[M]?) : ToldAt w' M out n := by
  obtain ⟨D, h1, h2⟩ := h
  exact ⟨D, map_same h1 hb, h2⟩
theorem ToldAt.lt {w : World} {M : Nat} {out : List Nat} {n : Nat} (h : ToldAt w M out n) : M < w.heap.size := h.choose_spec.1.lt
theorem int_key (k : Nat) : WideAt.IsKeyLit (.int .i64 (k : Int)) := by simp [WideAt.IsKeyLit]
theorem told_look {w : World} {M : Nat} {out : List Nat} {n : Nat} (h : ToldAt w M out n) (k : Nat) (hk : k ≤ maxLen) :
    ∃ c : Int, (Instr.lookup 113 (.map (some M)) (.int .i64 (k : Int)) false).run Tryz.prog w = .ok (.int .i64 c) w ∧ (0 < c ↔ k ∈ out) := by
  obtain ⟨D, ho, hf⟩ := h
  obtain ⟨c, hr, hc, -⟩ := ho.lookup_int (Maps.int_keyed Tryz.underlying3) Tryz.underlying113 Tryz.underlying3 (zero_int w) (Maps.keyOf_int_mk Tryz.underlying3 (wf_small k hk))
  obtain ⟨c', h1, h2⟩ := hf k
  rw [hc] at h1
  cases h1
  exact ⟨c, hr, h2⟩
theorem told_store {w : World} {M : Nat} {out : List Nat} {n : Nat} (h : ToldAt w M out n) (hn : n < maxLen) (k : Nat) (hk : k ≤ maxLen) (c : Nat) (hc : 0 < c) (hc3 : c ≤ 3) :
    ∃ w', (Instr.mapUpdate 113 (.map (some M)) (.int .i64 (k : Int)) (.int .i64 (c : Int))).run Tryz.prog w = .ok () w' ∧ ToldAt w' M (out ++ List.replicate c k) (n + 1) ∧ w.grownBy w' (some M) := by
  obtain ⟨D, ho, hf⟩ := h
  obtain ⟨w', hr, ho', ht⟩ := ho.store (Maps.int_keyed Tryz.underlying3) Tryz.underlying113 hn (Maps.keyOf_int_mk Tryz.underlying3 (wf_small k hk)) (plainElem_int (H := Unit) Tryz.underlying3 (wf_small c (by unfold maxLen; omega)))
  refine ⟨w', hr, ⟨_, ho', fun y => ?_⟩, ht.grown⟩
  have him := (ho.isMap)
  by_cases he : y = k
  · subst he
    refine ⟨c, Maps.atKey_put_same him (int_key y) _ _, ?_⟩
    simp only [List.mem_append, List.mem_replicate]
    exact ⟨fun _ => .inr ⟨by omega, trivial⟩, fun _ => by omega⟩
  · have hne : (Lit.int .i64 (y : Int)) ≠ .int .i64 (k : Int) := fun e => he (Int.ofNat_inj.1 (Lit.int.inj e).2)
    obtain ⟨a, h1, h2⟩ := hf y
    refine ⟨a, by rw [Maps.atKey_put_other hne]; exact h1, ?_⟩
    rw [h2]
    simp only [List.mem_append, List.mem_replicate]
    exact ⟨fun h => .inl h, fun h => h.resolve_right fun h => he h.2⟩
theorem told_new (w : World) : ToldAt (w.alloc (.map #[] 0)) w.heap.size [] 0 :=
  ⟨_, World.ownsMap_made w _ _ _, fun x => ⟨0, rfl, by simp⟩⟩

/-! ### the reader -/
structure DE where
  R : Nat
  G : Nat
  cap : Nat
  M : Nat
  ts : List Tok
  ns : List ByteArray
def DE.n (E : DE) : Nat := E.ts.length
def DE.kts (E : DE) : List KT := E.ts.map Tok.kt
structure DEnv (w : World) (E : DE) : Prop where
  toks : ∀ k t, E.ts[k]? = some t → w.cell? ⟨E.G, k * 4, none⟩ = some (.int .u8 t.kind) ∧ w.cell? ⟨E.G, k * 4 + 1, none⟩ = some (.string t.text) ∧ w.cell? ⟨E.G, k * 4 + 2, none⟩ = some (.int .i64 t.spot.1) ∧ w.cell? ⟨E.G, k * 4 + 3, none⟩ = some (.int .i64 t.spot.2)
  gR : E.G ≠ E.R
  fit : E.n ≤ E.cap ∧ E.cap ≤ maxLen
  map : ∃ n, PlacesAt w E.M (fun x => findW E.ns x 0) n
  mR : E.M ≠ E.R
  wf : WToks E.ts
  few : E.ns.length ≤ maxLen
  small : E.n ≤ 65537
theorem DEnv.kept {w w' : World} {E : DE} (h : DEnv w E) (k : Kept E.R w w') : DEnv w' E := by
  refine ⟨fun i t hi => ?_, h.gR, h.fit, ?_, h.mR, h.wf, h.few, h.small⟩
  · obtain ⟨a, b, c, d⟩ := h.toks i t hi
    exact ⟨k.cell h.gR a, k.cell h.gR b, k.cell h.gR c, k.cell h.gR d⟩
  · obtain ⟨n, hn⟩ := h.map
    exact ⟨n, hn.same (k.block _ hn.lt h.mR)⟩
/-- A reader in memory, at a token. -/
structure DRd (w : World) (E : DE) (p : Nat) : Prop where
  env : DEnv w E
  rd : w.heap[E.R]? = some (.cells #[.slice (some ⟨E.G, p * 4, none⟩) (E.n - p) (E.cap - p), .map (some E.M)] 62 (0, 0))
  lt : p < E.n
theorem DRd.below {w w' : World} {E : DE} {p : Nat} (h : DRd w E p) (b : Below w.heap.size w w') : DRd w' E p := ⟨h.env.kept (.of_below b), (b.block _ (heap_lt h.rd)).trans h.rd, h.lt⟩
theorem DRd.blk {w : World} {E : DE} {p : Nat} (h : DRd w E p) : E.R < w.heap.size := heap_lt h.rd
/-- A call that reads leaves the reader so. -/
structure DGoes (w : World) (E : DE) (p : Nat) (w' : World) : Prop where
  rd : DRd w' E p
  kept : Kept E.R w w'
theorem DGoes.below {w w' w'' : World} {E : DE} {p : Nat} (h : DGoes w E p w') (b : Below w'.heap.size w' w'') : DGoes w E p w'' := ⟨h.rd.below b, h.kept.trans (.of_below b)⟩
theorem DGoes.of_below {w w' w'' : World} {E : DE} {p : Nat} (h : DGoes w' E p w'') (b : Below w.heap.size w w') : DGoes w E p w'' := ⟨h.rd, (Kept.of_below b).trans h.kept⟩
theorem DGoes.trans {w w' w'' : World} {E : DE} {p q : Nat} (h : DGoes w E p w') (k : DGoes w' E q w'') : DGoes w E q w'' := ⟨k.rd, h.kept.trans k.kept⟩
theorem DRd.goes {w : World} {E : DE} {p : Nat} (h : DRd w E p) : DGoes w E p w := ⟨h, .refl _ _⟩
theorem kts_len (E : DE) : E.kts.length = E.n := by simp [DE.kts, DE.n]
/-- The tokens from one on, as kinds and texts. -/
theorem kts_drop {E : DE} {p : Nat} (h : p < E.n) : E.kts.drop p = (tk E.ts p).kt :: E.kts.drop (p + 1) := by
  have hl : p < E.kts.length := by rw [kts_len]; exact h
  rw [List.drop_eq_getElem_cons hl]
  congr 1
  have := tk_get (ts := E.ts) h
  simp only [DE.kts, List.getElem_map]
  rw [(List.getElem?_eq_some_iff.1 this).2]
end Go.Proofs.YtbkjminjkjnkpaaGreatDoor
