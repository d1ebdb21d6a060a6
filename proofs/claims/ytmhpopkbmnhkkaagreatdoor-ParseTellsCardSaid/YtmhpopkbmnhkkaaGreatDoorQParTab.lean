import Derived.Test.YtmhpopkbmnhkkaaGreatDoorQParA
import Derived.Deep.QuietTactic
import Derived.BigQuiet
import Derived.BigCall
/- Layer 2 (parse): the table of steps is made. -/
namespace Go.Proofs.YtmhpopkbmnhkkaaGreatDoor
open Go.RowKit Go.Lib

theorem insert_run (W : World) (M clk : Nat) (l : List MapEntry) (key : ByteArray) (v : Value) (h : W.heap[M]? = some (.map l.toArray clk)) (hn : Instr.findNow .string (.string key) l 0 = some none) :
    ∃ W', (Instr.mapUpdate 98 (.map (some M)) (.string key) v).run Tryz.prog W = .ok () W' ∧ W'.heap[M]? = some (.map (l ++ [(⟨.string key, v, clk⟩ : MapEntry)]).toArray (clk + 1)) ∧ W'.heap.size = W.heap.size ∧ (∀ k, k ≠ M → W'.heap[k]? = W.heap[k]?) ∧ W'.os = W.os ∧ W'.tape = W.tape ∧ W'.output = W.output := by
  have ht : Tryz.prog.underlying 98 = some (.map 9 142) := Tryz.underlying98
  have hs : Tryz.prog.underlying 9 = some .string := Tryz.underlying9
  have hc := MapKept.run_checkKey (w := W) hs (k := .string key) (by simp [MapKept.IsKey]) false 9999
  have hset := MapKept.run_setObj_map (P := Tryz.prog) (.map (l.toArray.push ⟨.string key, v, clk⟩) (clk + 1)) h
  refine ⟨{ W with heap := W.heap.setIfInBounds M (.map (l.toArray.push ⟨.string key, v, clk⟩) (clk + 1)) }, ?_, (MapKept.heap_set h).1.trans ?_, by simp, fun k hk => (MapKept.heap_set h).2 k hk, rfl, rfl, rfl⟩
  · simp [Instr.mapUpdate, run_underlying ht, MapKept.run_getObj_map h, hc, MapKept.run_findKey hs hn, MapKept.run_setObj_map _ h, Result.andThen]
  · simp

set_option maxRecDepth 100000 in
theorem amountFn_any (w : World) (dof : Int) : Calls Tryz.prog 109 #[.int .u8 dof] w fun e w' => e = .returned (amountV w.heap.size) ∧ w' = w.alloc (.cells #[.int .u8 dof] 5) := by
  go_enter Tryz.func109, Tryz.ntmps109
  go_wp2
  go_ret
  exact ⟨rfl, rfl⟩
set_option maxRecDepth 100000 in
theorem piecesFn_any (w : World) (dof : Int) : Calls Tryz.prog 110 #[.int .u8 dof] w fun e w' => e = .returned (piecesV w.heap.size) ∧ w' = w.alloc (.cells #[.int .u8 dof] 5) := by
  go_enter Tryz.func110, Tryz.ntmps110
  go_wp2
  go_ret
  exact ⟨rfl, rfl⟩

/-- Of the table's world: what was there has not turned; the table; the variables so far. -/
structure TabMid (w W : World) (M : Nat) (l : List MapEntry) (vs : List (Nat × Int)) : Prop where
  below : Below w.heap.size w W
  mge : w.heap.size ≤ M
  tab : W.heap[M]? = some (.map l.toArray l.length)
  vars : ∀ v ∈ vs, W.heap[v.1]? = some (.cells #[.int .u8 v.2] 5 (0, 0)) ∧ w.heap.size ≤ v.1
theorem TabMid.alloc {w W : World} {M : Nat} {l : List MapEntry} {vs : List (Nat × Int)} (h : TabMid w W M l vs) (d : Int) : TabMid w (W.alloc (.cells #[.int .u8 d] 5)) M l (vs ++ [(W.heap.size, d)]) := by
  refine ⟨h.below.alloc h.below.size _, h.mge, (Below.heap_alloc _ _ _ (heap_lt h.tab)).trans h.tab, fun v hv => ?_⟩
  rcases List.mem_append.1 hv with hv | hv
  · exact ⟨(Below.heap_alloc _ _ _ (heap_lt (h.vars v hv).1)).trans (h.vars v hv).1, (h.vars v hv).2⟩
  · simp at hv; subst hv; exact ⟨heap_alloc_new _ _, h.below.size⟩
theorem TabMid.insert {w W : World} {M : Nat} {l : List MapEntry} {vs : List (Nat × Int)} (h : TabMid w W M l vs) (key : ByteArray) (v : Value) (hn : Instr.findNow .string (.string key) l 0 = some none) :
    ∃ W', (Instr.mapUpdate 98 (.map (some M)) (.string key) v).run Tryz.prog W = .ok () W' ∧ TabMid w W' M (l ++ [(⟨.string key, v, l.length⟩ : MapEntry)]) vs ∧ W'.heap.size = W.heap.size := by
  obtain ⟨W', hr, ht, hz, ho, h1, h2, h3⟩ := insert_run W M l.length l key v h.tab hn
  refine ⟨W', hr, ⟨h.below.trans ⟨h1, h2, h3, by omega, fun k hk => ho k (by have := h.mge; omega)⟩, h.mge, by rw [ht]; simp, fun x hx => ?_⟩, hz⟩
  obtain ⟨ha, hb⟩ := h.vars x hx
  refine ⟨?_, hb⟩
  rw [ho x.1 ?_, ha]
  intro e
  rw [e, h.tab] at ha
  cases ha

def TabEnds (w : World) (e : Ending) (w' : World) : Prop := ∃ (M : Nat) (A : Nat → Nat), e = .returned (.map (some M)) ∧ w'.heap[M]? = some (.map (entriesOf A).toArray 11) ∧ w.heap.size ≤ M ∧ (∀ i, i < 9 → w'.heap[A i]? = some (.cells #[.int .u8 (doOf i)] 5 (0, 0)) ∧ w.heap.size ≤ A i) ∧ Below w.heap.size w w'

set_option maxHeartbeats 4000000 in
set_option maxRecDepth 100000 in
theorem steps_any (w : World) : Calls Tryz.prog 58 #[] w (TabEnds w) := by
  go_enter Tryz.func58, Tryz.ntmps58
  have hmk : ∀ W : World, (Instr.makeMap 98 none).run Tryz.prog W = .ok (.map (some W.heap.size)) (W.alloc (.map #[] 0)) := fun _ => rfl
  have M0 : Hid (TabMid w (w.alloc (.map #[] 0)) w.heap.size [] []) := ⟨(Below.refl _ _).alloc (Nat.le_refl _) _, Nat.le_refl _, heap_alloc_new _ _, fun _ h => by cases h⟩
  go_wp2_with fail
  refine (amountFn_any _ 0).mono ?_
  rintro e _ ⟨rfl, rfl⟩
  have m0 := M0.out.alloc 0
  obtain ⟨w0, hr0, n0, hz0⟩ := m0.insert ⟨#[100, 114, 97, 119]⟩ (amountV (w.alloc (.map #[] 0)).heap.size) (by rfl)
  have N0 := Lib.hid n0
  have Z0 := Lib.hid hz0
  clear m0 n0 hz0
  simp only [World.size_alloc] at hr0
  go_wp2_with fail
  refine (amountFn_any _ 1).mono ?_
  rintro e _ ⟨rfl, rfl⟩
  have m1 := N0.out.alloc 1
  obtain ⟨w1, hr1, n1, hz1⟩ := m1.insert ⟨#[109, 105, 108, 108]⟩ (amountV w0.heap.size) (by rfl)
  have N1 := Lib.hid n1
  have Z1 := Lib.hid hz1
  clear m1 n1 hz1
  go_wp2_with fail
  refine (amountFn_any _ 2).mono ?_
  rintro e _ ⟨rfl, rfl⟩
  have m2 := N1.out.alloc 2
  obtain ⟨w2, hr2, n2, hz2⟩ := m2.insert ⟨#[100, 97, 109, 97, 103, 101]⟩ (amountV w1.heap.size) (by rfl)
  have N2 := Lib.hid n2
  have Z2 := Lib.hid hz2
  clear m2 n2 hz2
  go_wp2_with fail
  refine (amountFn_any _ 3).mono ?_
  rintro e _ ⟨rfl, rfl⟩
  have m3 := N2.out.alloc 3
  obtain ⟨w3, hr3, n3, hz3⟩ := m3.insert ⟨#[104, 101, 97, 108]⟩ (amountV w2.heap.size) (by rfl)
  have N3 := Lib.hid n3
  have Z3 := Lib.hid hz3
  clear m3 n3 hz3
  go_wp2_with fail
  refine (amountFn_any _ 9).mono ?_
  rintro e _ ⟨rfl, rfl⟩
  have m4 := N3.out.alloc 9
  obtain ⟨w4, hr4, n4, hz4⟩ := m4.insert ⟨#[116, 111, 107, 101, 110]⟩ (amountV w3.heap.size) (by rfl)
  have N4 := Lib.hid n4
  have Z4 := Lib.hid hz4
  clear m4 n4 hz4
  go_wp2_with fail
  refine (piecesFn_any _ 4).mono ?_
  rintro e _ ⟨rfl, rfl⟩
  have m5 := N4.out.alloc 4
  obtain ⟨w5, hr5, n5, hz5⟩ := m5.insert ⟨#[100, 101, 115, 116, 114, 111, 121]⟩ (piecesV w4.heap.size) (by rfl)
  have N5 := Lib.hid n5
  have Z5 := Lib.hid hz5
  clear m5 n5 hz5
  go_wp2_with fail
  refine (piecesFn_any _ 5).mono ?_
  rintro e _ ⟨rfl, rfl⟩
  have m6 := N5.out.alloc 5
  obtain ⟨w6, hr6, n6, hz6⟩ := m6.insert ⟨#[98, 97, 110, 105, 115, 104]⟩ (piecesV w5.heap.size) (by rfl)
  have N6 := Lib.hid n6
  have Z6 := Lib.hid hz6
  clear m6 n6 hz6
  go_wp2_with fail
  refine (piecesFn_any _ 6).mono ?_
  rintro e _ ⟨rfl, rfl⟩
  have m7 := N6.out.alloc 6
  obtain ⟨w7, hr7, n7, hz7⟩ := m7.insert ⟨#[98, 111, 117, 110, 99, 101]⟩ (piecesV w6.heap.size) (by rfl)
  have N7 := Lib.hid n7
  have Z7 := Lib.hid hz7
  clear m7 n7 hz7
  go_wp2_with fail
  refine (piecesFn_any _ 8).mono ?_
  rintro e _ ⟨rfl, rfl⟩
  have m8 := N7.out.alloc 8
  obtain ⟨w8, hr8, n8, hz8⟩ := m8.insert ⟨#[114, 101, 118, 105, 118, 101]⟩ (piecesV w7.heap.size) (by rfl)
  have N8 := Lib.hid n8
  have Z8 := Lib.hid hz8
  clear m8 n8 hz8
  obtain ⟨w9, hr9, n9, hz9⟩ := N8.out.insert ⟨#[98, 111, 111, 115, 116]⟩ boostV (by rfl)
  have N9 := Lib.hid n9
  clear n9 hz9
  obtain ⟨w10, hr10, n10, hz10⟩ := N9.out.insert ⟨#[110, 101, 103, 97, 116, 101]⟩ negateV (by rfl)
  have N10 := Lib.hid n10
  clear n10 hz10
  unfold boostV at hr9
  unfold negateV at hr10
  go_wp2
  go_ret
  refine ⟨w.heap.size, fun i => match i with | 0 => (w.alloc (.map #[] 0)).heap.size | 1 => w0.heap.size | 2 => w1.heap.size | 3 => w2.heap.size | 4 => w3.heap.size | 5 => w4.heap.size | 6 => w5.heap.size | 7 => w6.heap.size | _ => w7.heap.size, rfl, N10.out.tab, Nat.le_refl _, fun i hi => ?_, N10.out.below⟩
  have hv := N10.out.vars
  match i, hi with
  | 0, _ => exact hv ((w.alloc (.map #[] 0)).heap.size, 0) (by simp)
  | 1, _ => exact hv (w0.heap.size, 1) (by simp)
  | 2, _ => exact hv (w1.heap.size, 2) (by simp)
  | 3, _ => exact hv (w2.heap.size, 3) (by simp)
  | 4, _ => exact hv (w3.heap.size, 9) (by simp)
  | 5, _ => exact hv (w4.heap.size, 4) (by simp)
  | 6, _ => exact hv (w5.heap.size, 5) (by simp)
  | 7, _ => exact hv (w6.heap.size, 6) (by simp)
  | 8, _ => exact hv (w7.heap.size, 8) (by simp)
end Go.Proofs.YtmhpopkbmnhkkaaGreatDoor
