import Derived.Test.YtbkjminjkjnkpaaGreatDoorQDkPlaces
import Derived.Test.YtbkjminjkjnkpaaGreatDoorQDkDeck
/- Layer 5 (decks): decks.placesOf. -/
namespace Go.Proofs.YtbkjminjkjnkpaaGreatDoor
open Go.RowKit Go.Lib Go.Shelf
attribute [local go_sem] Oper.semAt_some

def placesF (pre : List KX) : ByteArray → Option Nat := pre.foldl (fun f x => fun y => if y = x.k.name then some x.i else f y) (fun _ => none)
theorem placesF_snoc (pre : List KX) (x : KX) : placesF (pre ++ [x]) = fun y => if y = x.k.name then some x.i else placesF pre y := by
  simp [placesF]
theorem findW_drop (ns : List ByteArray) (y : ByteArray) (i : Nat) (x : ByteArray) (h : ns[i]? = some x) : findW (ns.drop i) y i = if x = y then some i else findW (ns.drop (i + 1)) y (i + 1) := by
  have hi : i < ns.length := (List.getElem?_eq_some_iff.1 h).1
  rw [List.drop_eq_getElem_cons hi]
  have e : ns[i] = x := (List.getElem?_eq_some_iff.1 h).2
  rw [e]
  rfl
theorem placesF_upto (ks : List KC) (hm : ks.length ≤ maxLen) (hs : ∀ k ∈ ks, k.name.size ≤ maxLen) (y : ByteArray) : ∀ k, k ≤ ks.length → placesF (upto (kx ks hm hs) k) y = findW ((ks.map (·.name)).drop (ks.length - k)) y (ks.length - k)
  | 0, _ => by
    rw [Nat.sub_zero, List.drop_eq_nil_of_le (by simp)]
    rfl
  | k + 1, h => by
    have ih := placesF_upto ks hm hs y k (by omega)
    rw [upto_succ, placesF_snoc]
    obtain ⟨c, hc⟩ : ∃ c, ks[ks.length - 1 - k]? = some c := ⟨ks[ks.length - 1 - k]'(by omega), List.getElem?_eq_getElem _⟩
    have hn : (kx ks hm hs k).k.name = c.name := by
      unfold kx
      simp only [List.getD_eq_getElem?_getD, hc, Option.getD_some]
    have hi : (kx ks hm hs k).i = ks.length - 1 - k := rfl
    have hcn : (ks.map (·.name))[ks.length - 1 - k]? = some c.name := by rw [List.getElem?_map, hc]; rfl
    have e1 : ks.length - (k + 1) = ks.length - 1 - k := by omega
    have e2 : ks.length - 1 - k + 1 = ks.length - k := by omega
    rw [e1, findW_drop _ y _ c.name hcn, e2, ← ih]
    simp only [hn, hi]
    by_cases he : c.name = y
    · rw [if_pos he, if_pos he.symm]
    · rw [if_neg he, if_neg (fun e => he e.symm)]
theorem placesF_all (ks : List KC) (hm : ks.length ≤ maxLen) (hs : ∀ k ∈ ks, k.name.size ≤ maxLen) : placesF (upto (kx ks hm hs) ks.length) = fun y => findW (ks.map (·.name)) y 0 := by
  funext y
  have := placesF_upto ks hm hs y ks.length (Nat.le_refl _)
  rw [Nat.sub_self, List.drop_zero] at this
  exact this

theorem mkmap_run (w : World) (n : Nat) (hn : n ≤ 4611686018427387904) : (Instr.makeMap 59 (some (.int .i64 (n : Int)))).run Tryz.prog w = .ok (.map (some w.heap.size)) (w.alloc (.map #[] 0)) := by
  have hu : Tryz.prog.underlying 59 = some (.map 9 3) := Tryz.underlying59
  have wl : IntKind.i64.wrap (n : Int) = n := by rw [IntKind.wrap_i64]; omega
  simp [Instr.makeMap, run_underlying hu, asInt, asIntOf, wl]
theorem rowcells_kept {W W' : World} {B : Nat} {cs : Array Value} {t : TypeId} {row : Option Nat} (h : W.heap[B]? = some (.cells cs t (0, 0))) (hg : W.grownBy W' row) (hr : ∀ r, row = some r → ∃ o : Obj, W.heap[r]? = some o ∧ o.isCells = false) : W'.heap[B]? = some (.cells cs t (0, 0)) := by
  refine (hg.block B (Array.getElem?_eq_some_iff.1 h).1 (fun e => ?_)).trans h
  obtain ⟨o, ho, hc⟩ := hr B e.symm
  rw [h] at ho
  cases ho
  cases hc

set_option maxRecDepth 100000 in
set_option maxHeartbeats 4000000 in
theorem placesOf_in (n : Nat) (hn : 3 ≤ n) (p : Option Addr) (c : Nat) (ks : List KC) (w : World) (hK : KindsAt w p ks) (hm : ks.length ≤ 4611686018427387904) (hm' : ks.length < maxLen) (hs : ∀ k ∈ ks, k.name.size ≤ maxLen) (hb : ∀ a, p = some a → 0 < ks.length → a.block < w.heap.size) :
    CallsIn Fence.wide n Tryz.prog 17 #[.slice p ks.length c] w fun e W' => e = .returned (.map (some w.heap.size)) ∧ PlacesAt W' w.heap.size (fun y => findW (ks.map (·.name)) y 0) ks.length ∧ Below w.heap.size w W' := by
  have h1 : 1 ≤ n := by omega
  have hmm := mkmap_run w ks.length hm
  have hro : Fence.wide.round = none := rfl
  refine callsIn_of_wp_marks Tryz.func17 rfl trivial ?_ hro
  simp only [Tryz.ntmps17, List.size_toArray, List.length_cons, List.length_nil, Nat.reduceAdd, Nat.reduceSub, Array.replicate_succ, Array.replicate_zero, List.push_toArray, List.append_toArray, List.nil_append, List.cons_append]
  gi_wp2_with fail
  refine ⟨trivial, (backward_in Fence.wide (n - 1) trivial hro _ _ _ _).mono ?_⟩
  rintro e w' ⟨rfl, rfl⟩
  gi_wp2
  have hp0 := places_new w
  have hB0 : Below w.heap.size w (((w.alloc (.map #[] 0)).alloc (.cells #[.map (some w.heap.size)] 59)).alloc (.cells #[.slice p ks.length c] 24)) := (((Below.refl _ w).alloc (Nat.le_refl _) _).alloc (by simp) _).alloc (by simp; omega) _
  have hsz : (((w.alloc (.map #[] 0)).alloc (.cells #[.map (some w.heap.size)] 59)).alloc (.cells #[.slice p ks.length c] 24)).heap.size = w.heap.size + 3 := by simp
  have hMc : (((w.alloc (.map #[] 0)).alloc (.cells #[.map (some w.heap.size)] 59)).alloc (.cells #[.slice p ks.length c] 24)).heap[w.heap.size + 1]? = some (.cells #[.map (some w.heap.size)] 59 (0, 0)) := by
    have := heap_alloc_new (w.alloc (.map #[] 0)) (.cells #[.map (some w.heap.size)] 59)
    rw [World.size_alloc] at this
    exact (Below.heap_alloc _ _ _ (heap_lt this)).trans this
  have hBc : (((w.alloc (.map #[] 0)).alloc (.cells #[.map (some w.heap.size)] 59)).alloc (.cells #[.slice p ks.length c] 24)).heap[w.heap.size + 1 + 1]? = some (.cells #[.slice p ks.length c] 24 (0, 0)) := by
    have := heap_alloc_new ((w.alloc (.map #[] 0)).alloc (.cells #[.map (some w.heap.size)] 59)) (.cells #[.slice p ks.length c] 24)
    rw [World.size_alloc, World.size_alloc] at this
    exact this
  have hPM : PlacesAt (((w.alloc (.map #[] 0)).alloc (.cells #[.map (some w.heap.size)] 59)).alloc (.cells #[.slice p ks.length c] 24)) w.heap.size (placesF []) 0 := hp0.same (by rw [Below.heap_alloc _ _ _ (by simp; omega), Below.heap_alloc _ _ _ (by simp)])
  have hK0 := hK.below hB0
  obtain ⟨W0, hW0⟩ : ∃ W0, ((w.alloc (.map #[] 0)).alloc (.cells #[.map (some w.heap.size)] 59)).alloc (.cells #[.slice p ks.length c] 24) = W0 := ⟨_, rfl⟩
  rw [hW0] at hB0 hsz hMc hBc hPM hK0 ⊢
  clear hW0 hp0
  refine wpIn_rangeFunc_ownH hro h1 (gf := 59) (lb := #[.pointer (some ⟨w.heap.size + 1 + 1, 0, none⟩)]) rfl trivial (enters_of Tryz.func59 (by kernel_rfl) rfl)
    (back_stops Fence.wide (n - 1) trivial hro (by omega) (w.heap.size + 1 + 1) w.heap.size c p ks hm (Nat.le_of_lt hm') hs W0 (by omega) (by omega) (by rw [cell_blk hBc]; rfl) hK0 hb) KpB.trans
    (fun W l o o' hl a1 a2 a3 => ⟨belowK_b (w := W0) (by omega) W l o o' hl a1 a2 a3, World.putObj_heap_other (by omega)⟩) (Below.refl _ _) (fun _ => rfl)
    (fun pre W => (W.heap[w.heap.size + 1]? = some (.cells #[.map (some w.heap.size)] 59 (0, 0)) ∧ W.heap[w.heap.size + 1 + 1]? = some (.cells #[.slice p ks.length c] 24 (0, 0)) ∧ PlacesAt W w.heap.size (placesF pre) pre.length) ∧ Below w.heap.size w W)
    (fun _ _ _ => False)
    (OwnFrom.and (fun s A B row hs hg hr => ⟨rowcells_kept hs.1 hg (fun r e => (hr r e).2), rowcells_kept hs.2.1 hg (fun r e => (hr r e).2), hs.2.2.same (hg.block _ hs.2.2.lt (fun e => by have := (hr _ e.symm).1; omega))⟩) (ownFrom_below (Nat.le_refl _) (by omega)))
    (fun _ _ _ _ _ hs _ _ => hs)
    ⟨⟨hMc, hBc, hPM⟩, hB0⟩
    (fun x a' W => ∃ Bx, w.heap.size + 1 < Bx ∧ W.heap[Bx]? = some (.cells x.k.row 44 (0, 0)) ∧ a' = { tmps := #[.slice p ks.length c, undef, .map none, .pointer (some ⟨w.heap.size + 1, 0, none⟩), .int .i64 (x.i : Int), .pointer (some ⟨Bx, 0, none⟩), .slice p ks.length c, .int .i64 ks.length, .map (some w.heap.size), .slice p ks.length c, .func (.func 59) #[] #[.pointer (some ⟨w.heap.size + 1 + 1, 0, none⟩)], .int .i64 (x.i : Int), .agg x.k.row, undef, undef, undef, undef, undef], defers := [] })
    (fun x a' _ X Y row hs hg hr => by obtain ⟨Bx, h1, h2, h3⟩ := hs; exact ⟨Bx, h1, rowcells_kept h2 hg (fun r e => (hr r e).2), h3⟩)
    ?assign ?body ?done ?stop
  case assign =>
    rintro l pre ⟨i, ⟨nm, kd, lv, at_, gd, ea, en, ec⟩, hi, hnm⟩ W K ⟨⟨hc1, hc2, hp1⟩, hB1⟩ hK
    have hlt := heap_lt hc1
    have hlt2 := heap_lt hc2
    simp only [kEnc, KC.row]
    simp only [KC.row] at hK
    gi_wp2
    exact hK _ _ ((KeepsOthers.alloc _ _).from _) ⟨(Below.refl _ W).alloc hB1.size _, Below.heap_alloc _ _ _ hlt2⟩
      ⟨⟨(Below.heap_alloc _ _ _ hlt).trans hc1, (Below.heap_alloc _ _ _ hlt2).trans hc2, hp1.same (Below.heap_alloc _ _ _ hp1.lt)⟩, hB1.alloc hB1.size _⟩ ⟨W.heap.size, hlt, heap_alloc_new _ _, rfl⟩
  case body =>
    rintro l pre ⟨i, ⟨nm, kd, lv, at_, gd, ea, en, ec⟩, hi, hnm⟩ a' W hl ⟨r, hr⟩ ⟨⟨hc1, hc2, hp1⟩, hB1⟩ ⟨Bx, hBx, bX, rfl⟩ hlt
    obtain ⟨w1, hr1, hp2, hg1⟩ := places_store hp1 (by omega) nm hnm i hi
    have m0 : W.cell? ⟨w.heap.size + 1, 0, none⟩ = some (.map (some w.heap.size)) := by rw [cell_blk hc1]; rfl
    have x0 : W.cell? ⟨Bx, 0, none⟩ = some (.string nm) := by rw [cell_blk bX]; rfl
    have HP2 := Lib.hid hp2
    have hw0 := heap_lt hc2
    clear hp2
    simp only [KC.row]
    gi_wp2
    refine ⟨KeepsFrom.of_grownBy hg1 (fun j e => by cases e; omega), ⟨(Below.refl _ W).grown hg1 hB1.size (fun k e => by cases e; exact Nat.le_refl _), hg1.block _ hw0 (by simp; omega)⟩,
      ⟨(hg1.block _ (heap_lt hc1) (by simp)).trans hc1, (hg1.block _ hw0 (by simp; omega)).trans hc2, ?_⟩, hB1.grown hg1 hB1.size (fun k e => by cases e; exact Nat.le_refl _)⟩
    rw [placesF_snoc, List.length_append]
    exact HP2.out
  case done =>
    rintro D ys W hD rfl ⟨⟨hc1, hc2, hp1⟩, hB1⟩ hK
    have m0 : W.cell? ⟨w.heap.size + 1, 0, none⟩ = some (.map (some w.heap.size)) := by rw [cell_blk hc1]; rfl
    rw [placesF_all, upto_length] at hp1
    have HP1 := Lib.hid hp1
    have HC1 := Lib.hid hc1
    clear hp1
    gi_wp2
    refine ⟨by simp, .inl ⟨_, _, rfl, run_takeDeferred hK, ?_⟩⟩
    refine ⟨_, results_tmp rfl _ _ _, rfl, HP1.out.same (World.putObj_heap_other (by omega)), hB1.trans (belowK_b (w := w) (Nat.le_refl _) W D _ _ (by omega) hK rfl rfl)⟩
  case stop =>
    rintro D c pre W _ _ h _
    exact h.elim
theorem placesOf_any (p : Option Addr) (c : Nat) (ks : List KC) (w : World) (hK : KindsAt w p ks) (hm : ks.length ≤ 4611686018427387904) (hm' : ks.length < maxLen) (hs : ∀ k ∈ ks, k.name.size ≤ maxLen) :
    Calls Tryz.prog 17 #[.slice p ks.length c] w fun e W' => e = .returned (.map (some w.heap.size)) ∧ PlacesAt W' w.heap.size (fun y => findW (ks.map (·.name)) y 0) ks.length ∧ Below w.heap.size w W' :=
  (callsIn_wide (n := 3)).1 (placesOf_in 3 (Nat.le_refl _) p c ks w hK hm hm' hs fun a ha h0 => by
    obtain ⟨b, o, hp, hc⟩ := hK h0
    rw [hp] at ha
    cases ha
    have hk : ks[0]? = some ks[0] := List.getElem?_eq_getElem h0
    exact World.block_lt_of_cell? _ _ (hc 0 _ hk 0 _ rfl))
end Go.Proofs.YtbkjminjkjnkpaaGreatDoor
