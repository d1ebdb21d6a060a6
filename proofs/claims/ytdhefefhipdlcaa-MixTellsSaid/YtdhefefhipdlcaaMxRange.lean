/- A range over a function that never ends by itself: the loop's own body must leave it. The contract of such a function, and the law for the loop. -/
import Derived.Test.YtdhefefhipdlcaaTbBase
import Derived.RangeFuncNested
import Derived.RangeFuncBound
import Derived.RangeFuncCalls
import Derived.RangeFuncLeaves
import Derived.RangeFuncBox
import Derived.Shelf.Abstract
import Derived.OwnWalkIn
import Derived.TacticsInMore
import Derived.LoopNIn
import Derived.LoopIn
namespace Go.Proofs.Ytdhefefhipdlcaa
open Go.RowKit Go.Lib Go.Shelf
attribute [local go_sem] Oper.semAt_some

/-- What a round that goes on keeps: whatever is cells, but for one block. -/
structure KpC (R : Nat) (W W' : World) : Prop where
  size : W.heap.size ≤ W'.heap.size
  same : ∀ (k : Nat) (o : Obj), k ≠ R → W.heap[k]? = some o → o.isCells = true → W'.heap[k]? = some o
theorem KpC.refl (R : Nat) (W : World) : KpC R W W := ⟨Nat.le_refl _, fun _ _ _ h _ => h⟩
theorem KpC.trans {R : Nat} {A B C : World} (h : KpC R A B) (k : KpC R B C) : KpC R A C := ⟨Nat.le_trans h.size k.size, fun i o hi ho hc => k.same i o hi (h.same i o hi ho hc) hc⟩
theorem KpC.below {R : Nat} {W W' : World} (h : Below W.heap.size W W') : KpC R W W' := ⟨h.size, fun k o _ ho _ => (h.block k (heap_lt ho)).trans ho⟩
theorem KpC.put {R : Nat} (W : World) (l : Nat) (o o' : Obj) (hl : W.heap[l]? = some o) (ho : o.isCells = false) : KpC R W (W.putObj l o') :=
  ⟨by simp, fun k x _ hk hx => by
    have : k ≠ l := fun e => by rw [e, hl] at hk; cases hk; rw [ho] at hx; cases hx
    exact (World.putObj_heap_other this).trans hk⟩
theorem KpC.cell {R : Nat} {W W' : World} (h : KpC R W W') {a : Addr} {v : Value} (hr : a.block ≠ R) (hc : W.cell? a = some v) : W'.cell? a = some v := by
  obtain ⟨o, ho, hcc⟩ := cells_of_cell hc
  rw [World.cell?_of_block (w := W) ((h.same _ _ hr ho hcc).trans ho.symm)]
  exact hc

/-- The contract of a function that hands out one after another, and never ends by itself; no more than N + 1 rounds. -/
def SeqN (n : Nat) (P : Program) (g : Nat) (lb : Array Value) (encs : Nat → Array Value) (Kp : World → World → Prop) (N : Nat) (w : World) : Prop :=
  ∀ (l : Nat) (J Jx : Nat → World → Prop) (W : World), Below w.heap.size w W → w.heap.size + 2 ≤ W.heap.size → OwnFrom W.heap.size J → OwnFrom W.heap.size Jx →
    (∀ i V, J i V → YieldAt Fence.wide (n - 1) P l (encs i) V fun e W' =>
      (e = .returned (.bool true) ∧ i < N ∧ J (i + 1) W' ∧ Kp V W') ∨ (e = .returned (.bool false) ∧ Jx (i + 1) W')) →
    J 0 W →
    CallsIn Fence.wide n P g (#[.func (.yield l) #[] #[]] ++ lb) W fun e W' => (∃ v, e = .returned v) ∧ ∃ i, Jx i W'

/-- How a round's body may be left. -/
def leftN (B : Nat) (Kp : World → World → Prop) (I : Nat → World → Prop) (Ix : Code → Nat → World → Prop) (N i : Nat) (V : World) : Exit → Act → World → Prop
  | .normal, _, W' => (KeepsFrom B V W' ∧ Kp V W') ∧ i < N ∧ I (i + 1) W'
  | .ret, _, W' => KeepsFrom B V W' ∧ Ix .ret (i + 1) W'
  | .exit j, _, W' => KeepsFrom B V W' ∧ Ix (.exit j) (i + 1) W'
  | .goto t, _, W' => KeepsFrom B V W' ∧ Ix (.goto t) (i + 1) W'
  | _, _, _ => False

section
variable {n : Nat} {P : Program}
theorem own_both {β : Type} {B D : Nat} {o1 o2 : Obj} {I : β → World → Prop} (hI : OwnFrom D I) (hB : D + 2 ≤ B) : OwnFrom B (fun s V => I s V ∧ V.heap[D]? = some o1 ∧ V.heap[D + 1]? = some o2) :=
  fun s X Y row hs hg hr => by
    have hlt : ∀ k o, X.heap[k]? = some o → k < B → Y.heap[k]? = some o := fun k o hk hkB => (hg.block k (heap_lt hk) (fun e => by have := (hr k e.symm).1; omega)).trans hk
    exact ⟨hI s X Y row hs.1 hg (fun r e => ⟨by have := (hr r e).1; omega, (hr r e).2⟩), hlt _ _ hs.2.1 (by omega), hlt _ _ hs.2.2 (by omega)⟩

set_option maxHeartbeats 2000000 in
theorem range_n {g : Operand} {ps : Array Tmp} {assign body : Code} {Q : Exit → Act → World → Prop} {a : Act} {w : World} {gf : Nat} {lb : Array Value}
    (hg : a.eval g = .func (.func gf) #[] lb) (eg : ∀ args w, (callFunc gf args).run P w = .ok (.enter gf args) w)
    {encs : Nat → Array Value} {Kp : World → World → Prop} {N : Nat} (hseq : SeqN (n - 1) P gf lb encs Kp N w)
    (hKt : ∀ {A B C : World}, Kp A B → Kp B C → Kp A C) (hKb : ∀ (V : World) (o o' : Obj), V.heap[w.heap.size + 1]? = some o → o.isCells = false → Kp V (V.putObj (w.heap.size + 1) o'))
    (hps : ∀ x, (encs x).size = ps.size) (I : Nat → World → Prop) (Ix : Code → Nat → World → Prop) (hI : OwnFrom w.heap.size I) (hIx : ∀ c, OwnFrom w.heap.size (Ix c)) (h0 : I 0 w)
    (Ax : Nat → Act → World → Prop) (hAx : ∀ x a', OwnFrom w.heap.size (fun (_ : Unit) V => Ax x a' V))
    (hassign : ∀ (l : Nat) (i : Nat) (V : World) (K : Act → World → Prop), I i V → (∀ a' W', KeepsFrom w.heap.size V W' → Kp V W' → I i W' → Ax i a' W' → K a' W') →
      assign.wpIn (Fence.wide.inRound l) (n - 1 - 1) P (Exit.then K (fun _ _ _ => False)) { tmps := (ps.zip (encs i)).foldl (fun t (p, v) => t.setIfInBounds p v) a.tmps, defers := [] } V)
    (hbody : ∀ (l : Nat) (i : Nat) (a' : Act) (V : World), w.heap.size ≤ l → (∃ r, V.heap[l]? = some (.loop r)) → I i V → Ax i a' V → body.wpIn (Fence.wide.inRound l) (n - 1 - 1) P (leftN w.heap.size Kp I Ix N i V) a' V)
    (hstop : ∀ (c : Code) (i : Nat) (V : World), Ix c i V → V.heap[w.heap.size]? = some (.deferred (some [])) → c.wpIn Fence.wide n P Q { a with defers := { target := .collected w.heap.size, args := #[] } :: a.defers } V) :
    (Code.rangeFunc g ps assign body).wpIn Fence.wide n P Q a w := by
  have hseq' := hseq
  unfold SeqN at hseq'
  clear hseq
  generalize hD : w.heap.size = D at *
  refine wpIn_rangeFunc fun fn hfn => ?_
  obtain ⟨rec, hrec⟩ : ∃ rec : LoopState → Option Code → Loop, rec = fun st pe => { state := st, pending := pe, fn, tmps := a.tmps, params := ps, assign, body, defers := D } := ⟨_, rfl⟩
  obtain ⟨W1, hW1⟩ : ∃ W1, W1 = (w.alloc (.deferred (some []))).alloc (.loop (rec .ready none)) := ⟨_, rfl⟩
  have hs1 : W1.heap.size = D + 2 := by rw [hW1, ← hD]; simp
  have hd1 : W1.heap[D]? = some (.deferred (some [])) := by rw [hW1, ← hD]; exact heap_older (heap_alloc_new _ _)
  have hl1 : W1.heap[D + 1]? = some (.loop (rec .ready none)) := by rw [hW1, ← hD]; exact heap_newer _ _ _ (by simp)
  have hb1 : Below D w W1 := by rw [hW1, ← hD]; exact ((Below.refl _ w).alloc (Nat.le_refl _) _).alloc (by simp) _
  have hi1 : I 0 W1 := by rw [hW1]; exact hI.alloc _ (hI.alloc _ h0)
  have hrun : (Instr.enterLoop fn a.tmps ps assign body Fence.wide.round).run P w = .ok (D + 1, [{ target := .collected D, args := #[] }]) W1 := by
    rw [hW1, hrec, ← hD]; exact run_enterLoop_outer _ _ _ _ _
  refine ⟨D + 1, [{ target := .collected D, args := #[] }], W1, { target := .fn (.func gf) lb, args := #[.func (.yield (D + 1)) #[] #[]] }, W1, gf, #[.func (.yield (D + 1)) #[] #[]] ++ lb, W1, hrun, ?_, fun _ _ => trivial, ?_, fun h => by simp [Fence.wide] at h, ?_⟩
  · simp only [resolve, hg]
    simp [go_sem]
  · simp [invoke, go_sem, eg]
  refine (hseq' (D + 1) (fun i V => I i V ∧ V.heap[D]? = some (.deferred (some [])) ∧ V.heap[D + 1]? = some (.loop (rec .ready none)))
    (fun i V => ∃ c, Ix c i V ∧ V.heap[D]? = some (.deferred (some [])) ∧ V.heap[D + 1]? = some (.loop (rec .done (some c)))) W1 hb1 (by omega)
    (own_both hI (by omega)) (fun s X Y row hs hg hr => by
      obtain ⟨c, hc⟩ := hs
      exact ⟨c, own_both (hIx c) (by omega) s X Y row hc hg hr⟩) ?_ ⟨hi1, hd1, hl1⟩).mono ?_
  · rintro i V ⟨hi, hd, hl⟩
    have hy := run_yield (P := P) (args := encs i) hl (by rw [hrec]; exact hps i)
    rw [hrec] at hy
    refine ⟨fn, _, assign, body, hy, roundIn_of_wpIn hfn (hassign _ i V _ hi ?_)⟩
    intro a' U hku hkp hiU hax
    have hdU := hku.same _ _ (Nat.le_refl _) hd rfl
    have hlU := hku.same _ _ (by omega) hl rfl
    refine ⟨_, run_beginRound hlU (by rw [hrec]), ?_⟩
    have hbl := hKb U _ (.loop { rec .ready none with state := .busy }) hlU rfl
    obtain ⟨T, hT⟩ : ∃ T, T = U.putObj (D + 1) (.loop { rec .ready none with state := .busy }) := ⟨_, rfl⟩
    rw [← hT] at hbl ⊢
    have hlT : T.heap[D + 1]? = some (.loop { rec .ready none with state := .busy }) := by rw [hT]; exact World.putObj_heap_same (heap_lt hlU)
    have hdT : T.heap[D]? = some (.deferred (some [])) := by rw [hT]; exact (World.putObj_heap_other (by omega)).trans hdU
    have hiT : I i T := by rw [hT]; exact hI.putObj _ hiU (by omega) hlU rfl
    have haT : Ax i a' T := by rw [hT]; exact (hAx i a').putObj (s := ()) _ hax (by omega) hlU rfl
    -- how a round ends, by whatever jump
    have hend : ∀ (jump : Option Code) (Z : World), KeepsFrom D T Z → ∃ Z', (Instr.endRound (D + 1) jump).run P Z = .ok (.bool jump.isNone) Z' ∧ Z'.heap[D]? = some (.deferred (some [])) ∧
        Z'.heap[D + 1]? = some (.loop (rec (if jump.isNone then .ready else .done) jump)) ∧ (Kp T Z → Kp V Z') ∧ ∀ {β : Type} (X : β → World → Prop) (s : β), OwnFrom D X → X s Z → X s Z' := fun jump Z hkz => by
      have hlZ := hkz.same _ _ (by omega) hlT rfl
      have hr := run_endRound (P := P) jump hlZ
      refine ⟨_, hr, (World.putObj_heap_other (by omega)).trans (hkz.same _ _ (Nat.le_refl _) hdT rfl), ?_, fun hkz' => hKt hkp (hKt (hKt hbl hkz') (hKb Z _ _ hlZ rfl)), fun X s hX hs => hX.putObj _ hs (by omega) hlZ rfl⟩
      rw [World.putObj_heap_same (heap_lt hlZ), hrec]
    refine wpIn_mono (hbody _ i a' T (by omega) ⟨_, hlT⟩ hiT haT) ?_
    rintro e a3 Z hp
    cases e with
    | normal =>
      obtain ⟨⟨h1, h2⟩, h3, h4⟩ := hp
      obtain ⟨Z', hr, hd', hl', hk', hx⟩ := hend none Z h1
      exact ⟨_, _, hr, .inl ⟨rfl, h3, ⟨hx I _ hI h4, hd', hl'⟩, hk' h2⟩⟩
    | ret =>
      obtain ⟨h1, h3⟩ := hp
      obtain ⟨Z', hr, hd', hl', hk', hx⟩ := hend (some .ret) Z h1
      exact ⟨_, _, hr, .inr ⟨rfl, .ret, hx _ _ (hIx _) h3, hd', hl'⟩⟩
    | exit j =>
      obtain ⟨h1, h3⟩ := hp
      obtain ⟨Z', hr, hd', hl', hk', hx⟩ := hend (some (.exit j)) Z h1
      exact ⟨_, _, hr, .inr ⟨rfl, .exit j, hx _ _ (hIx _) h3, hd', hl'⟩⟩
    | goto t =>
      obtain ⟨h1, h3⟩ := hp
      obtain ⟨Z', hr, hd', hl', hk', hx⟩ := hend (some (.goto t)) Z h1
      exact ⟨_, _, hr, .inr ⟨rfl, .goto t, hx _ _ (hIx _) h3, hd', hl'⟩⟩
    | panic ch => exact hp.elim
    | outgrown => exact hp.elim
  · rintro e V ⟨⟨v, rfl⟩, i, c, hi, hd, hl⟩
    have hr := run_endLoop (P := P) hl (by rw [hrec]; simp)
    rw [hrec] at hr
    exact ⟨some c, _, hr, hstop c i _ ((hIx c).putObj _ hi (by omega) hl rfl) ((World.putObj_heap_other (by omega)).trans hd)⟩
end

/-- A function's marks: one for each range over a function that it went through. -/
def marks (ds : List Nat) : List Deferred := ds.map fun D => { target := .collected D, args := #[] }
/-- All marks are empty: the function leaves, and what is told of cells stays. -/
theorem leaves_marks {P : Program} {fn : Func} {tmps : Array Value} {n : Nat} {B : Nat} {R : Ending → World → Prop} {X : World → Prop} (hX : OwnFrom B (fun (_ : Unit) V => X V)) (hR : ∀ V, X V → LeavesIn Fence.wide n P fn tmps R [] .returning V) :
    ∀ (ds : List Nat) (V : World), ds.Nodup → (∀ D ∈ ds, B ≤ D ∧ V.heap[D]? = some (.deferred (some []))) → X V → LeavesInM Fence.wide n P fn tmps R (marks ds) .returning V
  | [], V, _, _, hx => hR V hx
  | D :: ds, V, hn, hd, hx => by
    obtain ⟨h1, h2⟩ := List.nodup_cons.1 hn
    have hD := hd D List.mem_cons_self
    refine ⟨by simp, .inl ⟨D, _, rfl, run_takeDeferred hD.2, ?_⟩⟩
    refine leaves_marks hX hR ds _ h2 (fun E hE => ?_) (hX.putObj (s := ()) _ hx hD.1 hD.2 rfl)
    have := hd E (List.mem_cons_of_mem _ hE)
    exact ⟨this.1, (World.putObj_heap_other (k := E) (r := D) (fun e => h1 (by rw [← e]; exact hE))).trans this.2⟩
end Go.Proofs.Ytdhefefhipdlcaa
