import Derived.Test.YtmhpopkbmnhkkaaGreatDoorQParCd
import Derived.Test.YtmhpopkbmnhkkaaGreatDoorQParMCards
import Derived.Test.YtmhpopkbmnhkkaaGreatDoorQParMExprs
import Derived.Test.YtmhpopkbmnhkkaaGreatDoorQParTab
import Derived.Test.YtmhpopkbmnhkkaaGreatDoorQPar
/- Layer 2 (parse): texts are read. -/
namespace Go.Proofs.YtmhpopkbmnhkkaaGreatDoor
open Go.RowKit Go.Lib

/-- What the calls ask of the world: Go's tables, and strconv's two errors. -/
structure PTabs (w : World) : Prop where
  tabs : Tabs w
  syn : ∃ te pe, w.cell? ⟨10, 0, none⟩ = some (.iface te pe)
  rng : ∃ te pe, w.cell? ⟨11, 0, none⟩ = some (.iface te pe)
theorem PTabs.below {w w' : World} (h : PTabs w) (b : Below w.heap.size w w') : PTabs w' := by
  refine ⟨h.tabs.below b, ?_, ?_⟩
  · obtain ⟨te, pe, hc⟩ := h.syn; exact ⟨te, pe, cell_later b hc⟩
  · obtain ⟨te, pe, hc⟩ := h.rng; exact ⟨te, pe, cell_later b hc⟩

def OpenEnds (s : ByteArray) (w : World) (e : Ending) (w' : World) : Prop := ∃ ER EL EC : Int, ER = (scanOf s).2.1 ∧ EL = (scanOf s).2.2.1 ∧ EC = (scanOf s).2.2.2 ∧ Below w.heap.size w w' ∧
  ((ER ≠ 0 ∧ e = .returned (.tuple #[.pointer none, .agg #[.int .i64 ER, .int .i64 EL, .int .i64 EC]])) ∨
   (ER = 0 ∧ ∃ E : Env, E.ts = (scanOf s).1 ∧ e = .returned (.tuple #[.pointer (some ⟨E.R, 0, none⟩), .agg #[.int .i64 0, .int .i64 0, .int .i64 0]]) ∧ w.heap.size ≤ E.R ∧ Rd w' E (.ok 0) 0))

theorem HasToks.set {w : World} {v : Value} {ts : List Tok} {F i : Nat} {cs : Array Value} {fr : Nat × Nat} {u : Value} (h : HasToks w v ts) (hF : w.heap[F]? = some (.cells cs 28 fr)) : HasToks (w.setCell ⟨F, i, none⟩ u) v ts := by
  obtain ⟨base, ho⟩ := h
  refine ⟨base, ho.1, ?_⟩
  rcases ho.2 with h0 | ⟨g, cap, cur, hv, hg, hh, r⟩
  · exact .inl h0
  · refine .inr ⟨g, cap, cur, hv, hg, (heap_set_far ?_ _).trans hh, r⟩
    rintro rfl
    rw [hF] at hh
    simp at hh
theorem reader_new (s : ByteArray) (w2 : World) (v : Value) (M : Nat) (A : Nat → Nat) (h0 : (scanOf s).2.1 = 0) (hp : PTabs w2) (ho : HasToks w2 v (scanOf s).1)
    (hM : w2.heap[M]? = some (.map (entriesOf A).toArray 11)) (hA : ∀ i, i < 9 → w2.heap[A i]? = some (.cells #[.int .u8 (doOf i)] 5 (0, 0))) :
    ∃ E : Env, E.R = w2.heap.size ∧ E.ts = (scanOf s).1 ∧ (∃ g cap, v = .slice (some ⟨g, 0, none⟩) (scanOf s).1.length cap ∧ Rd (w2.alloc (.cells #[v, .map (some M), .int .i64 0, .int .i64 0, .int .i64 0, .int .i64 0] 101)) E (.ok 0) 0) := by
  have hw := wtoks_scan s h0
  rcases ho.open with ⟨_, hn⟩ | ⟨g, cap, hv, hc, hm, ht⟩
  · have := hw.pos; rw [hn] at this; exact absurd this (by decide)
  · subst hv
    have hg : g < w2.heap.size := World.block_lt_of_cell? _ _ (ht 0 _ (tk_get hw.pos)).1
    have hk : Kept w2.heap.size w2 (w2.alloc (.cells #[.slice (some ⟨g, 0, none⟩) (scanOf s).1.length cap, .map (some M), .int .i64 0, .int .i64 0, .int .i64 0, .int .i64 0] 101)) := (Kept.refl _ _).alloc _
    refine ⟨⟨w2.heap.size, g, cap, M, A, (scanOf s).1⟩, rfl, rfl, g, cap, rfl, ⟨?_, ?_, hw.pos⟩⟩
    · refine EnvAt.kept (w := w2) ⟨fun i t hi => ht i t hi, ?_, ⟨hc, hm⟩, hM, ?_, fun i hi => ⟨hA i hi, ?_⟩, ⟨?_, hp.syn⟩, ⟨?_, hp.rng⟩, hw⟩ hk
      · simp; omega
      · have := heap_lt hM; simp; omega
      · have := heap_lt (hA i hi); simp; omega
      · obtain ⟨te, pe, hc'⟩ := hp.syn; have := World.block_lt_of_cell? _ _ hc'; simp at this ⊢; omega
      · obtain ⟨te, pe, hc'⟩ := hp.rng; have := World.block_lt_of_cell? _ _ hc'; simp at this ⊢; omega
    · refine (heap_alloc_new _ _).trans ?_
      simp [rdCells, RS.pos, RS.e, RS.l, RS.c, Env.n]

/-- What open leaves behind, told of the world that the walk comes to. -/
theorem open_good (s : ByteArray) (w w2 : World) (v : Value) (M : Nat) (A : Nat → Nat) (h0 : (scanOf s).2.1 = 0) (hT : PTabs w) (hb : Below w.heap.size w w2) (ho : HasToks w2 v (scanOf s).1)
    (hF : w2.heap[w.heap.size]? = some (.cells #[.int .i64 0, .int .i64 0, .int .i64 0] 28 (0, 0)))
    (hM : w2.heap[M]? = some (.map (entriesOf A).toArray 11)) (hMF : M ≠ w.heap.size) (hA : ∀ i, i < 9 → w2.heap[A i]? = some (.cells #[.int .u8 (doOf i)] 5 (0, 0)) ∧ A i ≠ w.heap.size) :
    ∃ g cap, v = .slice (some ⟨g, 0, none⟩) (scanOf s).1.length cap ∧ OpenEnds s w (.returned (.tuple #[.pointer (some ⟨w2.heap.size, 0, none⟩), .agg #[.int .i64 0, .int .i64 0, .int .i64 0]]))
      ((((w2.setCell ⟨w.heap.size, 0, none⟩ (.int .i64 0)).setCell ⟨w.heap.size, 1, none⟩ (.int .i64 0)).setCell ⟨w.heap.size, 2, none⟩ (.int .i64 0)).alloc (.cells #[v, .map (some M), .int .i64 0, .int .i64 0, .int .i64 0, .int .i64 0] 101)) := by
  have hb' : Below w.heap.size w (((w2.setCell ⟨w.heap.size, 0, none⟩ (.int .i64 0)).setCell ⟨w.heap.size, 1, none⟩ (.int .i64 0)).setCell ⟨w.heap.size, 2, none⟩ (.int .i64 0)) := ((hb.setCell (Nat.le_refl _) _).setCell (Nat.le_refl _) _).setCell (Nat.le_refl _) _
  have f1 := heap_set_to (i := 0) (u := .int .i64 0) hF rfl
  have f2 := heap_set_to (i := 1) (u := .int .i64 0) f1 rfl
  obtain ⟨E, hR, hts, g, cap, hv, hrd⟩ := reader_new s (((w2.setCell ⟨w.heap.size, 0, none⟩ (.int .i64 0)).setCell ⟨w.heap.size, 1, none⟩ (.int .i64 0)).setCell ⟨w.heap.size, 2, none⟩ (.int .i64 0)) v M A h0 (hT.below hb') (((ho.set hF).set f1).set f2)
    (heap_other (heap_other (heap_other hM hMF) hMF) hMF) (fun i hi => heap_other (heap_other (heap_other (hA i hi).1 (hA i hi).2) (hA i hi).2) (hA i hi).2)
  have hsz : (((w2.setCell ⟨w.heap.size, 0, none⟩ (.int .i64 0)).setCell ⟨w.heap.size, 1, none⟩ (.int .i64 0)).setCell ⟨w.heap.size, 2, none⟩ (.int .i64 0)).heap.size = w2.heap.size := by simp
  rw [hsz] at hR
  refine ⟨g, cap, hv, 0, (scanOf s).2.2.1, (scanOf s).2.2.2, by rw [h0]; rfl, rfl, rfl, hb'.alloc hb'.size _, .inr ⟨rfl, E, hts, by rw [hR], by rw [hR]; exact hb.size, hrd⟩⟩

set_option maxHeartbeats 2000000 in
set_option maxRecDepth 100000 in
theorem open_any (s : ByteArray) (w : World) (hs : s.size ≤ maxLen) (hT : PTabs w) : Calls Tryz.prog 27 #[.string s] w (OpenEnds s w) := by
  have ht : Hid (∀ W, PTabs W → Calls Tryz.prog 57 #[.string s] W (ToksAt W (scanOf s).1 (scanOf s).2.1 (scanOf s).2.2)) := fun W hW => (tokens_any s W hs hW.tabs).mono fun _ _ h => h.at_
  have hnew := fun (w2 : World) (v : Value) (M : Nat) (A : Nat → Nat) => open_good s w w2 v M A
  have HN := Lib.hid hnew
  have HTT := Lib.hid hT
  have H1 := Lib.hid (hT.below ((Below.refl _ _).alloc (Nat.le_refl _) (.cells #[.int .i64 0, .int .i64 0, .int .i64 0] 28)))
  have hoe : Hid (∀ e w', (scanOf s).2.1 ≠ 0 → Below w.heap.size w w' → e = .returned (.tuple #[.pointer none, .agg #[.int .i64 (scanOf s).2.1, .int .i64 (scanOf s).2.2.1, .int .i64 (scanOf s).2.2.2]]) → OpenEnds s w e w') := fun e w' hne hb he => ⟨_, _, _, rfl, rfl, rfl, hb, .inl ⟨by omega, he⟩⟩
  clear hnew hT
  have hsz : Hid (s.size ≤ maxLen) := hs
  clear hs
  generalize (scanOf s).1 = ts at *
  generalize (scanOf s).2.1 = er at *
  generalize hlc : (scanOf s).2.2 = lc at *
  clear hlc
  obtain ⟨l, c⟩ := lc
  simp only [] at ht hoe
  by_cases he : er = 0
  · subst he
    go_enter Tryz.func27, Tryz.ntmps27
    go_wp2_with fail
    refine (ht.out _ H1.out).mono ?_
    rintro e w1 ⟨v, rfl, ho, b1⟩
    have hF : w1.heap[w.heap.size]? = some (.cells #[.int .i64 0, .int .i64 0, .int .i64 0] 28 (0, 0)) := (b1.block _ (by simp)).trans (heap_alloc_new _ _)
    have HO := Lib.hid ho
    have B1 : Hid (Below w.heap.size w w1) := ((Below.refl _ _).alloc (Nat.le_refl _) _).trans (b1.mono (by simp))
    have sz1 : w.heap.size < w1.heap.size := heap_lt hF
    have HF := Lib.hid hF
    clear ho b1 hF
    go_wp2_with fail
    refine (steps_any _).mono ?_
    rintro e w2 ⟨M, A, rfl, hM, hMge, hA, b2⟩
    have hF : w2.heap[w.heap.size]? = some (.cells #[.int .i64 0, .int .i64 0, .int .i64 0] 28 (0, 0)) := (b2.block _ (by simp; omega)).trans (heap_old HF.out)
    have e0 := cell_blk (i := 0) hF
    have e1 := cell_blk (i := 1) hF
    have e2 := cell_blk (i := 2) hF
    have ef0 := free_blk (i := 0) hF
    have ef1 := free_blk (i := 1) hF
    have ef2 := free_blk (i := 2) hF
    simp at e0 e1 e2
    have sz2 : w1.heap.size < w2.heap.size := by have := b2.size; simp at this; omega
    have sz3 : w.heap.size < w2.heap.size := heap_lt hF
    have nz3 : w.heap.size ≠ w2.heap.size := Nat.ne_of_lt sz3
    have nz4 : w2.heap.size ≠ w.heap.size := Ne.symm nz3
    have hb2 : Below w.heap.size w w2 := B1.out.trans (((Below.refl _ _).alloc (by omega) _).trans (b2.mono (by simp; omega)))
    obtain ⟨g, cap, hv, hoe2⟩ := HN.out w2 v M A trivial HTT.out hb2 (HO.out.later (((Below.refl _ _).alloc (Nat.le_refl _) _).trans (b2.mono (by simp)))) hF hM (by have := hMge; simp at this; omega) (fun i hi => ⟨(hA i hi).1, by have := (hA i hi).2; simp at this; omega⟩)
    subst hv
    have HOE := Lib.hid hoe2
    clear hb2 hoe2 hM hMge hA b2 hF
    go_wp2
    refine bodyPost_ret (v := .tuple #[.pointer (some ⟨w2.heap.size, 0, none⟩), .agg #[.int .i64 0, .int .i64 0, .int .i64 0]]) (by simp [results, Tryz.results27, go_sem, e0, e1, e2, sz3, nz3, nz4]) rfl ?_
    exact HOE.out
  · have q : ((er : Int) != 0) = true := by simp; omega
    have hre : Hid (∀ e w', Below w.heap.size w w' → e = .returned (.tuple #[.pointer none, .agg #[.int .i64 er, .int .i64 l, .int .i64 c]]) → OpenEnds s w e w') := fun e w' hb hq => hoe.out e w' he hb hq
    clear he
    go_enter Tryz.func27, Tryz.ntmps27
    go_wp2_with fail
    refine (ht.out _ H1.out).mono ?_
    rintro e w1 ⟨v, rfl, ho, b1⟩
    have hF : w1.heap[w.heap.size]? = some (.cells #[.int .i64 0, .int .i64 0, .int .i64 0] 28 (0, 0)) := (b1.block _ (by simp)).trans (heap_alloc_new _ _)
    have hfm : ∃ a n c, v = .slice a n c := by
      rcases ho.open with ⟨h, -⟩ | ⟨g, cap, h, -⟩
      · exact ⟨_, _, _, h⟩
      · exact ⟨_, _, _, h⟩
    obtain ⟨va, vn, vc, rfl⟩ := hfm
    have B1 : Hid (Below w.heap.size w w1) := ((Below.refl _ _).alloc (Nat.le_refl _) _).trans (b1.mono (by simp))
    have sz1 : w.heap.size < w1.heap.size := heap_lt hF
    have nz1 : w.heap.size ≠ w1.heap.size := Nat.ne_of_lt sz1
    have nz2 : w1.heap.size ≠ w.heap.size := Ne.symm nz1
    have e0 := cell_blk (i := 0) hF
    have e1 := cell_blk (i := 1) hF
    have e2 := cell_blk (i := 2) hF
    have ef0 := free_blk (i := 0) hF
    have ef1 := free_blk (i := 1) hF
    have ef2 := free_blk (i := 2) hF
    simp at e0 e1 e2
    clear ho b1 hF
    go_wp2
    go_region
    go_wp2
    refine bodyPost_ret (v := .tuple #[.pointer none, .agg #[.int .i64 er, .int .i64 l, .int .i64 c]]) (by simp [results, Tryz.results27, go_sem, e0, e1, e2, sz1, nz1, nz2]) rfl ?_
    exact hre.out _ _ ((((B1.out.setCell (p := ⟨w.heap.size, 0, none⟩) (Nat.le_refl _) _).setCell (p := ⟨w.heap.size, 1, none⟩) (Nat.le_refl _) _).setCell (p := ⟨w.heap.size, 2, none⟩) (Nat.le_refl _) _).alloc (by simp; omega) _).drew rfl
end Go.Proofs.YtmhpopkbmnhkkaaGreatDoor
