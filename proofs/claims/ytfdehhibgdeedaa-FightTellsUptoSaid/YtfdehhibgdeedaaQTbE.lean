import Derived.Test.YtfdehhibgdeedaaQTbA
import Derived.Test.YtfdehhibgdeedaaQTbApp
import Derived.Deep.AppendLies
import Derived.Deep.DeepCutAuto
import Derived.Deep.RegionHeld3
import Derived.StillTailTactics
/- The document's Copy of a table: its pieces appended onto none. -/
namespace Go.Proofs.Ytfdehhibgdeedaa
open Go.RowKit Go.Lib

theorem pc_info : (Try.prog.info? 45).map (fun i => (i.size, i.bytes)) = some (14, 72) := by kernel_rfl
theorem pc_zero : ((Try.prog.info? 45).bind (·.zero)).isSome = true := by kernel_rfl
theorem pcs_append {w : World} {q : Option Addr} {c : Nat} {ps : List Pc} (h : RowIn w 14 72 PcIn (.slice q ps.length c) ps) :
    ∃ q' c' w', (Builtin.append_ #[23, 23] 23 #[.slice none 0 0, .slice q ps.length c]).run Try.prog w = .ok (.slice q' ps.length c') w' ∧ Below w.heap.size w w' ∧
      (ps.length ≠ 0 → q' = some ⟨w.heap.size, 0, none⟩ ∧ ∃ tail : Array Value, w'.heap[w.heap.size]? = some (.cells ((ps.map pcV).flatten.toArray ++ tail) 45 (0, 0))) := by
  have hi := pc_info
  have hz := pc_zero
  obtain ⟨i, hi1, hi2⟩ := Option.map_eq_some_iff.1 hi
  simp only [Prod.mk.injEq] at hi2
  rw [hi1] at hz
  obtain ⟨z, hz1⟩ := Option.isSome_iff_exists.1 hz
  have hs := src_row (P := Try.prog) (t := 23) (e := 45) Try.underlying23 (f := pcV) h (fun cs x hx => hx) (fun x _ => rfl) (fun x u hu => by simp [pcV] at hu; rcases hu with rfl | rfl | rfl | rfl | rfl | rfl | rfl | rfl | rfl | rfl | rfl | rfl | rfl | rfl <;> rfl) (row_none h)
  obtain ⟨-, -, -, hm, hb, -⟩ := h
  rw [← hi2.1] at hs
  exact append_fresh w _ _ _ i z Try.underlying23 hi1 hz1 _ _ _ _ hs (by rw [hi2.2]; omega) hm
end Go.Proofs.Ytfdehhibgdeedaa

/- joustref00.exprs: expressions of whatever depth are copied. -/
namespace Go.Proofs.Ytfdehhibgdeedaa
open Go.RowKit Go.Lib

theorem ex_info : (Try.prog.info? 70).map (fun i => (i.zero, i.size, i.bytes)) = some (some (.agg #[.int .u8 0, .int .i64 0, .int .u8 0, .int .u8 0, .int .u8 0, .int .u8 0, .slice none 0 0]), 7, 48) := by kernel_rfl
theorem st_info : (Try.prog.info? 72).map (fun i => (i.zero, i.size, i.bytes)) = some (some (.agg #[.int .u8 0, .int .u8 0, .int .u8 0, .int .i64 0, .int .u8 0, .int .u8 0, .int .u8 0, .int .u8 0, .slice none 0 0, .bool false, .int .u8 0, .int .u8 0, .int .u8 0]), 13, 64) := by kernel_rfl
theorem ef_info : (Try.prog.info? 68).map (fun i => (i.zero, i.size, i.bytes)) = some (some (.agg #[.int .u8 0, .int .u8 0, .int .u8 0, .slice none 0 0, .int .i64 0, .int .i64 0, .bool false, .int .i64 0, .int .u8 0, .int .u8 0, .int .u8 0, .slice none 0 0]), 12, 96) := by kernel_rfl
theorem cd_info : (Try.prog.info? 62).map (fun i => (i.zero, i.size, i.bytes)) = some (some (.agg #[.string ⟨#[]⟩, .int .u8 0, .int .i64 0, .int .i64 0, .int .i64 0, .slice none 0 0]), 6, 72) := by kernel_rfl

/-- What copies of a row are. -/
def CopyEnds {α : Type} (ty : TypeId) (size : Nat) (P : World → (Nat → Prop) → List Value → α → Prop) (xs : List α) (w : World) (e : Ending) (w' : World) : Prop :=
  ∃ a c, e = .returned (.slice a xs.length c) ∧ RowAt w' (From w.heap.size) ty size P (.slice a xs.length c) xs ∧ Below w.heap.size w w'
theorem grown_below {B : Nat} {w w1 w2 : World} {o : Option Nat} (h : Below B w w1) (hg : w1.grownBy w2 o) (hB : B ≤ w1.heap.size) (ho : ∀ k, o = some k → B ≤ k) : Below B w w2 := h.grown hg hB ho
theorem take_next {α : Type} {xs : List α} {i : Nat} {x : α} (h : xs[i]? = some x) : xs.take (i + 1) = xs.take i ++ [x] := by rw [List.take_add_one, h]; rfl

set_option maxHeartbeats 4000000 in
set_option maxRecDepth 100000 in
theorem exprs_by_copy (d : Nat) (ih : ∀ k, d = k + 1 → ∀ (w : World) (v : Value) (xs : List Ex), RowIn w 7 48 (ExIn 1 k) v xs → Calls Try.prog 38 #[v] w (CopyEnds 70 7 (ExAt k) xs w))
    (w : World) (v : Value) (xs : List Ex) (h : RowIn w 7 48 (ExIn 1 d) v xs) : Calls Try.prog 38 #[v] w (CopyEnds 70 7 (ExAt d) xs w) := by
  obtain ⟨q, c, rfl, hl, hm, hx⟩ := h
  unfold maxLen at hl
  have HX := Lib.hid hx
  have HI := Lib.hid ih
  obtain ⟨i0, hi0, hz0, hz1, hz2⟩ := info_parts ex_info
  obtain ⟨N, hN⟩ : ∃ N, N = xs.length := ⟨_, rfl⟩
  rw [← hN] at hl hm ⊢
  have HN := Lib.hid hN
  have HF : Hid (∀ W : World, CopyEnds 70 7 (ExAt d) xs w = CopyEnds 70 7 (ExAt d) xs w) := Lib.hid fun _ => rfl
  clear hx ih hN HF
  go_enter Try.func38, Try.ntmps38
  go_wp2
  go_loopw [3, 4] (fun vo vi wr => ∃ (i : Nat) (a : Option Addr) (cc : Nat), vi = .int .i64 i ∧ i ≤ N ∧ vo = .slice a i cc ∧ RowAt wr (From w.heap.size) 70 7 (ExAt d) (.slice a i cc) (xs.take i) ∧ Below w.heap.size w wr) (fun _ vi _ => N - (RowKit.intOf vi).toNat)
  case atStart => exact ⟨0, none, 0, by rfl, by omega, rfl, by rw [List.take_zero]; exact RowAt.nil _ _ _ _ _, Below.refl _ _⟩
  case round =>
    obtain ⟨i, a, cc, rfl, hi, rfl, hrow, hbw⟩ := hrel
    have HR := Lib.hid hrow
    have HB := Lib.hid hbw
    clear hrow hbw
    by_cases hlt : i < N
    · obtain ⟨x, hxi⟩ : ∃ x, xs[i]? = some x := ⟨xs[i]'(by have := HN.out; omega), List.getElem?_eq_getElem _⟩
      obtain ⟨g, o, rfl, cs, hcs, hp, hc⟩ := HX.out i x hxi
      obtain ⟨k, rfl⟩ : ∃ k, d = k + 1 := by
        cases d with
        | zero => exact hp.elim
        | succ k => exact ⟨k, rfl⟩
      obtain ⟨va, rfl, hra⟩ := hp
      have a0 := cell_later HB.out (hc 0 _ rfl)
      have a1 := cell_later HB.out (hc 1 _ rfl)
      have a2 := cell_later HB.out (hc 2 _ rfl)
      have a3 := cell_later HB.out (hc 3 _ rfl)
      have a4 := cell_later HB.out (hc 4 _ rfl)
      have a5 := cell_later HB.out (hc 5 _ rfl)
      have a6 := cell_later HB.out (hc 6 _ rfl)
      simp only [Nat.add_zero] at a0
      have HXI := Lib.hid hxi
      have i1 : (i : Int) < (N : Int) := by omega
      have i0' : (0 : Int) ≤ (i : Int) := by omega
      have hcall : Hid (∀ W', Below w.heap.size w W' → Calls Try.prog 38 #[va] W' (CopyEnds 70 7 (ExAt k) x.args W')) := Lib.hid fun W' hb =>
        HI.out k rfl W' va x.args (hra.below (ExIn.stays 1 k) hb)
      obtain ⟨qa, ca, hva, -⟩ := hra
      subst hva
      clear hxi hc hcs
      go_wp2_with fail
      refine (hcall.out _ (HB.out.alloc HB.out.size _)).mono ?_
      rintro e w2 ⟨ra, rc, rfl, hr2, b2⟩
      have h2 := (b2.block wr.heap.size (by simp)).trans (heap_alloc_new wr _)
      have hlt2 := heap_lt h2
      have hB2 : Below w.heap.size w w2 := (HB.out.alloc HB.out.size _).trans (b2.mono (by have := HB.out.size; simp; omega))
      obtain ⟨w3, hw3⟩ : ∃ w3, w3 = (w2.setCell ⟨wr.heap.size, 6, none⟩ (.slice ra x.args.length rc)).alloc (.cells #[.int .u8 x.op, .int .i64 x.n, .int .u8 x.side, .int .u8 x.sel.side, .int .u8 x.sel.zone, .int .u8 x.sel.kind, .slice ra x.args.length rc] 70) := ⟨_, rfl⟩
      have hs3 : w3.heap.size = w2.heap.size + 1 := by rw [hw3]; simp
      have hB3 : Below w.heap.size w w3 := by rw [hw3]; exact (hB2.setCell (p := ⟨wr.heap.size, 6, none⟩) HB.out.size _).alloc (by have := hB2.size; simp; omega) _
      have hold : ∀ j, j < wr.heap.size → w3.heap[j]? = wr.heap[j]? := fun j hj => by
        rw [hw3, heap_alloc_old _ _ (by simp; omega), heap_setCell_other _ _ _ _ (by simp; omega), b2.block j (by simp; omega), heap_alloc_old _ _ hj]
      have hnew : ∀ j, wr.heap.size + 1 ≤ j → j < w2.heap.size → w3.heap[j]? = w2.heap[j]? := fun j hj hl => by
        rw [hw3, heap_alloc_old _ _ (by simp; omega), heap_setCell_other _ _ _ _ (by simp; omega)]
      have hY : w3.heap[w2.heap.size]? = some (.cells #[.int .u8 x.op, .int .i64 x.n, .int .u8 x.side, .int .u8 x.sel.side, .int .u8 x.sel.zone, .int .u8 x.sel.kind, .slice ra x.args.length rc] 70 (0, 0)) := by
        rw [hw3]; have := heap_alloc_new (w2.setCell ⟨wr.heap.size, 6, none⟩ (.slice ra x.args.length rc)) (.cells #[.int .u8 x.op, .int .i64 x.n, .int .u8 x.side, .int .u8 x.sel.side, .int .u8 x.sel.zone, .int .u8 x.sel.kind, .slice ra x.args.length rc] 70); rwa [show (w2.setCell ⟨wr.heap.size, 6, none⟩ (.slice ra x.args.length rc)).heap.size = w2.heap.size by simp] at this
      obtain ⟨css, hrow⟩ := HR.out
      have hli : (xs.take i).length = i := by rw [List.length_take]; have := HN.out; omega
      have hrow3 := hrow.frame (w' := w3) (S' := From w.heap.size) (ExAt.frames (k + 1)) (fun j hj hl => ⟨hj, hold j hl⟩)
      have hblk : ∀ j, (Value.slice a i cc).ownBlock = some j → w.heap.size ≤ j ∧ j < wr.heap.size := fun j hj => ⟨hrow.blk j hj, (hrow.own.lt j hj).2⟩
      have hown3 : w3.ownsRow 0 70 7 (.slice a i cc) i css.flatten := by have := hrow3.own; rwa [hli] at this
      have hex : ExAt (k + 1) w3 (From (wr.heap.size + 1)) (exV x (.slice ra x.args.length rc)) x := ⟨_, rfl, hr2.frame (ExAt.frames k) fun j hj hl => ⟨by unfold From at hj ⊢; simpa using hj, hnew j (by unfold From at hj; simpa using hj) hl⟩⟩
      have HB3 := Lib.hid hB3
      have HS3 := Lib.hid hs3
      have H3 := Lib.hid hrow3
      have HO := Lib.hid hown3
      have HE := Lib.hid hex
      have HBK := Lib.hid hblk
      have HY := Lib.hid hY
      have HW3 := Lib.hid hw3
      have HLI := Lib.hid hli
      have HZ2 : Hid (wr.heap.size + 1 ≤ w2.heap.size) := Lib.hid (by have := b2.size; simpa using this)
      have y0 := cell_blk (i := 0) h2; have y1 := cell_blk (i := 1) h2; have y2 := cell_blk (i := 2) h2; have y3 := cell_blk (i := 3) h2; have y4 := cell_blk (i := 4) h2; have y5 := cell_blk (i := 5) h2; have y6 := cell_blk (i := 6) h2; have yf0 := free_blk (i := 0) h2; have yf1 := free_blk (i := 1) h2; have yf2 := free_blk (i := 2) h2; have yf3 := free_blk (i := 3) h2; have yf4 := free_blk (i := 4) h2; have yf5 := free_blk (i := 5) h2; have yf6 := free_blk (i := 6) h2; simp at y0 y1 y2 y3 y4 y5 y6
      clear h2 hB2 hs3 hB3 hold hnew hY hrow hli hrow3 hblk hown3 hex hr2 b2 hw3
      go_wp2_with (at_builtin; rw [← HW3.out]; (refine wpList_append_lies _ rfl (.tmp 20) (.tmp 22) 63 rfl 0 70 i0 _ 7 48 Try.underlying63 hi0 hz0 hz1 hz2 rfl (by omega) _ i css.flatten rfl HO.out ⟨w2.heap.size, 0, none⟩ 1 1 (exV x (.slice ra x.args.length rc)) rfl rfl (World.news_of_block (cs := (exV x (.slice ra x.args.length rc)).toArray) (t := 70) (fr := (0, 0)) HY.out) (by simp [exV, stV, efV, cdV, slV, Value.oneCell']) (by omega) (by unfold maxLen; omega) (by omega) (Nat.zero_le _) _ rfl ?_; intro g4 cap w4 hown4 hgrow4 hat4 hlt4; have hgr4 : World.grownBy _ w4 (Value.slice a i cc).ownBlock := hgrow4))
      have hsn := RowOf.snoc (ExAt.frames (k + 1)) (w := w3) (w' := w4) (S := From w.heap.size) (Sx := From (wr.heap.size + 1)) (x := x) (c := exV x (.slice ra x.args.length rc)) (H := w3.heap.size) (b := 0) (g := g4) (cap := cap)
        H3.out rfl (by simp [exV, Value.oneCell']) HE.out (fun j hj _ => ⟨by have := HB.out.size; unfold From at *; omega, fun e => by have := (HBK.out j e).2; unfold From at hj; omega⟩) rfl (by have := HB3.out.size; unfold From; omega) (by rw [HLI.out]; exact hown4) hgr4 hat4
      rw [HLI.out, ← take_next HXI.out] at hsn
      have hB4 : Below w.heap.size w w4 := HB3.out.grown hgr4 HB3.out.size (fun j hj => (HBK.out j hj).1)
      refine ⟨⟨i + 1, _, cap, by go_num, by omega, rfl, ⟨_, hsn⟩, hB4⟩, ?_⟩
      simp [RowKit.intOf]; omega
    · obtain rfl : i = N := by omega
      have ht : xs.take i = xs := List.take_of_length_le (by have := HN.out; omega)
      have hR := HR.out
      rw [ht] at hR
      have HR2 := Lib.hid hR
      clear ht hR
      go_wp2
      go_ret
      exact ⟨a, cc, congrArg (fun n => Ending.returned (.slice a n cc)) HN.out, by rw [← HN.out]; exact HR2.out, HB.out⟩
theorem exprs_copy : ∀ (d : Nat) (w : World) (v : Value) (xs : List Ex), RowIn w 7 48 (ExIn 1 d) v xs → Calls Try.prog 38 #[v] w (CopyEnds 70 7 (ExAt d) xs w)
  | 0, w, v, xs, h => exprs_by_copy 0 (fun k e => by cases e) w v xs h
  | d + 1, w, v, xs, h => exprs_by_copy (d + 1) (fun k e => by cases e; exact exprs_copy d) w v xs h
end Go.Proofs.Ytfdehhibgdeedaa

/- joustref00.Copied: cards of whatever depth are copied. -/
namespace Go.Proofs.Ytfdehhibgdeedaa
open Go.RowKit Go.Lib

/-- One more of a row, appended. -/
theorem row_more {α : Type} {P : World → (Nat → Prop) → List Value → α → Prop} (hP : Frames P) {wr w3 : World} {B : Nat} {ty : TypeId} {size : Nat} {a : Option Addr} {i cc : Nat} {pre : List α} {css : List (List Value)}
    (hrow : RowOf wr (From B) ty size P (.slice a i cc) pre css) (hli : pre.length = i) (hB : B ≤ wr.heap.size) (hold : ∀ j, j < wr.heap.size → w3.heap[j]? = wr.heap[j]?) (hw : wr.heap.size ≤ w3.heap.size) {c : List Value} {x : α} (hc : c.length = size) (h1 : ∀ u ∈ c, u.oneCell' = true) (hex : P w3 (From wr.heap.size) c x) :
    w3.ownsRow 0 ty size (.slice a i cc) i css.flatten ∧ (∀ k, (Value.slice a i cc).ownBlock = some k → B ≤ k) ∧
      ∀ g cap w4, w4.ownsRow 0 ty size (.slice (some ⟨g, 0, none⟩) (i + 1) cap) (i + 1) (css.flatten ++ c) → w3.grownBy w4 (Value.slice a i cc).ownBlock → ((Value.slice a i cc).ownBlock = some g ∨ g = w3.heap.size) → RowAt w4 (From B) ty size P (.slice (some ⟨g, 0, none⟩) (i + 1) cap) (pre ++ [x]) := by
  have hrow3 := hrow.frame (w' := w3) (S' := From B) hP (fun j hj hl => ⟨hj, hold j hl⟩)
  have hblk : ∀ j, (Value.slice a i cc).ownBlock = some j → B ≤ j ∧ j < wr.heap.size := fun j hj => ⟨hrow.blk j hj, (hrow.own.lt j hj).2⟩
  refine ⟨by have := hrow3.own; rwa [hli] at this, fun k hk => (hblk k hk).1, fun g cap w4 ho hg hat => ?_⟩
  have := RowOf.snoc hP (w := w3) (w' := w4) (S := From B) (Sx := From wr.heap.size) (x := x) (c := c) (H := w3.heap.size) (b := 0) (g := g) (cap := cap) hrow3 hc h1 hex (fun j hj _ => ⟨by unfold From at *; omega, fun e => by have := (hblk j e).2; unfold From at hj; omega⟩) rfl (by unfold From; omega) (by rw [hli]; exact ho) hg hat
  rw [hli] at this
  exact ⟨_, this⟩
/-- A block is new, something is made behind it, a cell of it is turned, another block is new: what was there has stayed, and what was made. -/
theorem two_new {wr w2 w3 : World} {o o' : Obj} {n : Nat} {u : Value} (b2 : Below (wr.heap.size + 1) (wr.alloc o) w2) (hw3 : w3 = (w2.setCell ⟨wr.heap.size, n, none⟩ u).alloc o') :
    w3.heap.size = w2.heap.size + 1 ∧ wr.heap.size + 1 ≤ w2.heap.size ∧ (∀ j, j < wr.heap.size → w3.heap[j]? = wr.heap[j]?) ∧ (∀ j, wr.heap.size + 1 ≤ j → j < w2.heap.size → w3.heap[j]? = w2.heap[j]?) ∧ w3.heap[w2.heap.size]? = some o' ∧ Below wr.heap.size wr w3 := by
  have hz : wr.heap.size + 1 ≤ w2.heap.size := by have := b2.size; simpa using this
  have hA : Below wr.heap.size wr w2 := ((Below.refl _ wr).alloc (Nat.le_refl _) o).trans (b2.mono (by omega))
  subst hw3
  refine ⟨by simp, hz, fun j hj => ?_, fun j hj hl => ?_, ?_, (hA.setCell (p := ⟨wr.heap.size, n, none⟩) (Nat.le_refl _) u).alloc (by simp; omega) o'⟩
  · rw [heap_alloc_old _ _ (by simp; omega), heap_setCell_other _ _ _ _ (by show j ≠ wr.heap.size; omega), b2.block j (by omega), heap_alloc_old _ _ hj]
  · rw [heap_alloc_old _ _ (by simp; omega), heap_setCell_other _ _ _ _ (by show j ≠ wr.heap.size; omega)]
  · have := heap_alloc_new (w2.setCell ⟨wr.heap.size, n, none⟩ u) o'
    rwa [show (w2.setCell ⟨wr.heap.size, n, none⟩ u).heap.size = w2.heap.size by simp] at this


set_option maxHeartbeats 8000000 in
set_option maxRecDepth 100000 in
theorem copied_any (d : Nat) (w : World) (v : Value) (xs : List Cd) (h : RowIn w 6 72 (CdIn 1 d) v xs) : Calls Try.prog 19 #[v] w (CopyEnds 62 6 (CdD d) xs w) := by
  obtain ⟨q, c, rfl, hl, hm, hx⟩ := h
  unfold maxLen at hl
  have HX := Lib.hid hx
  obtain ⟨i0, hi0, hz0, hz1, hz2⟩ := info_parts cd_info
  obtain ⟨i1, hi1, hy0, hy1, hy2⟩ := info_parts ef_info
  obtain ⟨i2, hi2, ht0, ht1, ht2⟩ := info_parts st_info
  obtain ⟨N, hN⟩ : ∃ N, N = xs.length := ⟨_, rfl⟩
  rw [← hN] at hl hm ⊢
  have HN := Lib.hid hN
  clear hx hN
  go_enter Try.func19, Try.ntmps19
  go_wp2
  go_loopw [3, 4] (fun vo vi wr => ∃ (i : Nat) (a : Option Addr) (cc : Nat), vi = .int .i64 i ∧ i ≤ N ∧ vo = .slice a i cc ∧ RowAt wr (From w.heap.size) 62 6 (CdD d) (.slice a i cc) (xs.take i) ∧ Below w.heap.size w wr) (fun _ vi _ => N - (RowKit.intOf vi).toNat)
  case atStart => exact ⟨0, none, 0, by rfl, by omega, rfl, by rw [List.take_zero]; exact RowAt.nil _ _ _ _ _, Below.refl _ _⟩
  case round =>
  obtain ⟨i, a, cc, rfl, hi, rfl, hrow, hbw⟩ := hrel
  rename World => wA
  have HR := Lib.hid hrow
  have HB := Lib.hid hbw
  clear hrow hbw
  by_cases hlt : i < N
  · obtain ⟨x, hxi⟩ : ∃ x, xs[i]? = some x := ⟨xs[i]'(by have := HN.out; omega), List.getElem?_eq_getElem _⟩
    obtain ⟨g, o, rfl, cs, hcs, ⟨va, rfl, hnm, hra⟩, hc⟩ := HX.out i x hxi
    obtain ⟨nm, kd, lv, at_, gd, efs⟩ := x
    obtain ⟨qe, ce, hva, hel, hem, hex⟩ := hra
    subst hva
    simp only [] at hnm hel hem hex hc
    have HBx := HB.out
    have a0 := cell_later HBx (hc 0 _ rfl)
    have a1 := cell_later HBx (hc 1 _ rfl)
    have a2 := cell_later HBx (hc 2 _ rfl)
    have a3 := cell_later HBx (hc 3 _ rfl)
    have a4 := cell_later HBx (hc 4 _ rfl)
    have a5 := cell_later HBx (hc 5 _ rfl)
    simp only [Nat.add_zero] at a0
    have HXI := Lib.hid hxi
    have HNM := Lib.hid hnm
    have HEX := Lib.hid hex
    obtain ⟨M, hM⟩ : ∃ M, M = efs.length := ⟨_, rfl⟩
    rw [← hM] at hel hem a5
    have HMM := Lib.hid hM
    unfold maxLen at hel
    have j1 : (i : Int) < (N : Int) := by omega
    have j0 : (0 : Int) ≤ (i : Int) := by omega
    obtain ⟨wm, hwm⟩ : ∃ wm, wm = wA.alloc (.cells #[.string nm, .int .u8 kd, .int .i64 lv, .int .i64 at_, .int .i64 gd, .slice qe M ce] 62) := ⟨_, rfl⟩
    have hmC : wm.heap[wA.heap.size]? = some (.cells #[.string nm, .int .u8 kd, .int .i64 lv, .int .i64 at_, .int .i64 gd, .slice qe M ce] 62 (0, 0)) := by rw [hwm]; exact heap_alloc_new _ _
    have hmB : Below wA.heap.size wA wm := by rw [hwm]; exact (Below.refl _ _).alloc (Nat.le_refl _) _
    have hmS : wm.heap.size = wA.heap.size + 1 := by rw [hwm]; simp
    have HMC := Lib.hid hmC
    have HMB := Lib.hid hmB
    have HMS := Lib.hid hmS
    have HWM := Lib.hid hwm
    clear hxi hc hcs hnm hex HBx hmC hmB hmS hwm hM
    go_wp2_with fail
    rw [← HWM.out]
    go_loopw [6, 7] (fun vo vi wr => ∃ (k : Nat) (b : Option Addr) (bc : Nat), vi = .int .i64 k ∧ k ≤ M ∧ vo = .slice b k bc ∧ RowAt wr (From wm.heap.size) 68 12 (EfD d) (.slice b k bc) (efs.take k) ∧ Below wm.heap.size wm wr) (fun _ vi _ => M - (RowKit.intOf vi).toNat)
    case atStart => exact ⟨0, none, 0, by rfl, by omega, rfl, by rw [List.take_zero]; exact RowAt.nil _ _ _ _ _, Below.refl _ _⟩
    case round =>
    obtain ⟨k, b, bc, rfl, hk, rfl, hrow2, hbw2⟩ := hrel
    rename World => wB
    have HR2 := Lib.hid hrow2
    have HB2 := Lib.hid hbw2
    have HBw2 : Hid (Below w.heap.size w wB) := Lib.hid (HB.out.trans ((HMB.out.trans (hbw2.mono HMB.out.size)).mono HB.out.size))
    have hCb := (hbw2.block _ (heap_lt HMC.out)).trans HMC.out
    have hltC := heap_lt hCb
    have HCB := Lib.hid hCb
    clear hrow2 hbw2
    have c0 := cell_blk (i := 0) hCb; have c1 := cell_blk (i := 1) hCb; have c2 := cell_blk (i := 2) hCb; have c3 := cell_blk (i := 3) hCb; have c4 := cell_blk (i := 4) hCb; have c5 := cell_blk (i := 5) hCb; have cf0 := free_blk (i := 0) hCb; have cf1 := free_blk (i := 1) hCb; have cf2 := free_blk (i := 2) hCb; have cf3 := free_blk (i := 3) hCb; have cf4 := free_blk (i := 4) hCb; have cf5 := free_blk (i := 5) hCb; simp at c0 c1 c2 c3 c4 c5
    clear hCb
    by_cases hkm : k < M
    · obtain ⟨y, hyk⟩ : ∃ y, efs[k]? = some y := ⟨efs[k]'(by have := HMM.out; omega), List.getElem?_eq_getElem _⟩
      obtain ⟨ge, oe, rfl, cs, hcs, ⟨vc, vs, rfl, hcond, hsteps⟩, hc⟩ := HEX.out k y hyk
      obtain ⟨m, ev, sd, cd, pay, dr, tr, pk, ⟨k1, k2, k3⟩, ss⟩ := y
      obtain ⟨qc, c1, hvc, -⟩ := id hcond
      obtain ⟨qs, c2, hvs, hsl, hsm, hsx⟩ := hsteps
      subst hvc hvs
      simp only [] at hcond hsl hsm hsx hc
      have HBx := HBw2.out
      have b0 := cell_later HBx (hc 0 _ rfl)
      have b1 := cell_later HBx (hc 1 _ rfl)
      have b2 := cell_later HBx (hc 2 _ rfl)
      have b3 := cell_later HBx (hc 3 _ rfl)
      have b4 := cell_later HBx (hc 4 _ rfl)
      have b5 := cell_later HBx (hc 5 _ rfl)
      have b6 := cell_later HBx (hc 6 _ rfl)
      have b7 := cell_later HBx (hc 7 _ rfl)
      have b8 := cell_later HBx (hc 8 _ rfl)
      have b9 := cell_later HBx (hc 9 _ rfl)
      have b10 := cell_later HBx (hc 10 _ rfl)
      have b11 := cell_later HBx (hc 11 _ rfl)
      simp only [Nat.add_zero] at b0
      have HYK := Lib.hid hyk
      have HSX := Lib.hid hsx
      obtain ⟨R, hRR⟩ : ∃ R, R = ss.length := ⟨_, rfl⟩
      rw [← hRR] at hsl hsm b11
      have HRR := Lib.hid hRR
      unfold maxLen at hsl
      have j3 : (k : Int) < (M : Int) := by omega
      have j2 : (0 : Int) ≤ (k : Int) := by omega
      have hcall : Hid (∀ W', Below w.heap.size w W' → Calls Try.prog 38 #[.slice qc cd.length c1] W' (CopyEnds 70 7 (ExAt d) cd W')) := Lib.hid fun W' hb =>
        exprs_copy d W' _ cd (hcond.below (ExIn.stays 1 d) hb)
      clear hyk hc hcs hcond hsx HBx hRR
      go_wp2_with fail
      refine (hcall.out _ (HBw2.out.alloc HBw2.out.size _)).mono ?_
      rintro e w2 ⟨ra, rc, rfl, hr2, b2⟩
      have h2 := (b2.block wB.heap.size (by simp)).trans (heap_alloc_new wB _)
      have hlt2 := heap_lt h2
      obtain ⟨wi, hwi⟩ : ∃ wi, wi = w2.setCell ⟨wB.heap.size, 3, none⟩ (.slice ra cd.length rc) := ⟨_, rfl⟩
      have hiS : wi.heap.size = w2.heap.size := by rw [hwi]; simp
      have hiE : wi.heap[wB.heap.size]? = some (.cells #[.int .u8 m, .int .u8 ev, .int .u8 sd, .slice ra cd.length rc, .int .i64 pay, .int .i64 dr, .bool tr, .int .i64 pk, .int .u8 k1, .int .u8 k2, .int .u8 k3, .slice qs R c2] 68 (0, 0)) := by rw [hwi]; exact heap_setCell_same _ _ 3 _ _ _ h2
      have hiB : Below wB.heap.size wB wi := by rw [hwi]; exact (((Below.refl _ _).alloc (Nat.le_refl _) _).trans (b2.mono (by simp))).setCell (p := ⟨wB.heap.size, 3, none⟩) (Nat.le_refl _) _
      have hiR : RowAt wi (From (wB.heap.size + 1)) 70 7 (ExAt d) (.slice ra cd.length rc) cd := hr2.frame (ExAt.frames d) fun j hj hl => ⟨by unfold From at hj ⊢; simpa using hj, by rw [hwi]; exact heap_setCell_other _ _ _ _ (by unfold From at hj; simp at hj ⊢; omega)⟩
      have hiZ : wB.heap.size + 1 ≤ wi.heap.size := by rw [hiS]; have := b2.size; simpa using this
      have HIE := Lib.hid hiE
      have HIB := Lib.hid hiB
      have HIR := Lib.hid hiR
      have HIS := Lib.hid hiS
      have HIZ := Lib.hid hiZ
      have HWI := Lib.hid hwi
      have y0 := cell_blk (i := 0) h2; have y1 := cell_blk (i := 1) h2; have y2 := cell_blk (i := 2) h2; have y3 := cell_blk (i := 3) h2; have y4 := cell_blk (i := 4) h2; have y5 := cell_blk (i := 5) h2; have y6 := cell_blk (i := 6) h2; have y7 := cell_blk (i := 7) h2; have y8 := cell_blk (i := 8) h2; have y9 := cell_blk (i := 9) h2; have y10 := cell_blk (i := 10) h2; have y11 := cell_blk (i := 11) h2; have yf0 := free_blk (i := 0) h2; have yf1 := free_blk (i := 1) h2; have yf2 := free_blk (i := 2) h2; have yf3 := free_blk (i := 3) h2; have yf4 := free_blk (i := 4) h2; have yf5 := free_blk (i := 5) h2; have yf6 := free_blk (i := 6) h2; have yf7 := free_blk (i := 7) h2; have yf8 := free_blk (i := 8) h2; have yf9 := free_blk (i := 9) h2; have yf10 := free_blk (i := 10) h2; have yf11 := free_blk (i := 11) h2; simp at y0 y1 y2 y3 y4 y5 y6 y7 y8 y9 y10 y11
      clear h2 hiS hiE hiB hiR hiZ hwi b2 hr2
      go_wp2_with fail
      rw [← HWI.out]
      go_loopw [9, 10] (fun vo vi wr => ∃ (n : Nat) (f : Option Addr) (fc : Nat), vi = .int .i64 n ∧ n ≤ R ∧ vo = .slice f n fc ∧ RowAt wr (From wi.heap.size) 72 13 (StD d) (.slice f n fc) (ss.take n) ∧ Below wi.heap.size wi wr) (fun _ vi _ => R - (RowKit.intOf vi).toNat)
      case atStart => exact ⟨0, none, 0, by rfl, by omega, rfl, by rw [List.take_zero]; exact RowAt.nil _ _ _ _ _, Below.refl _ _⟩
      case round =>
      obtain ⟨n, f, fc, rfl, hn, rfl, hrow3, hbw3⟩ := hrel
      rename World => wC
      have HR3 := Lib.hid hrow3
      have HB3 := Lib.hid hbw3
      have HBw3 : Hid (Below w.heap.size w wC) := Lib.hid (HBw2.out.trans ((HIB.out.trans (hbw3.mono HIB.out.size)).mono HBw2.out.size))
      have hEb := (hbw3.block _ (heap_lt HIE.out)).trans HIE.out
      have hltE := heap_lt hEb
      have HEB := Lib.hid hEb
      clear hrow3 hbw3 y0 y1 y2 y3 y4 y5 y6 y7 y8 y9 y10 y11
      have e0 := cell_blk (i := 0) hEb; have e1 := cell_blk (i := 1) hEb; have e2 := cell_blk (i := 2) hEb; have e3 := cell_blk (i := 3) hEb; have e4 := cell_blk (i := 4) hEb; have e5 := cell_blk (i := 5) hEb; have e6 := cell_blk (i := 6) hEb; have e7 := cell_blk (i := 7) hEb; have e8 := cell_blk (i := 8) hEb; have e9 := cell_blk (i := 9) hEb; have e10 := cell_blk (i := 10) hEb; have e11 := cell_blk (i := 11) hEb; have ef0 := free_blk (i := 0) hEb; have ef1 := free_blk (i := 1) hEb; have ef2 := free_blk (i := 2) hEb; have ef3 := free_blk (i := 3) hEb; have ef4 := free_blk (i := 4) hEb; have ef5 := free_blk (i := 5) hEb; have ef6 := free_blk (i := 6) hEb; have ef7 := free_blk (i := 7) hEb; have ef8 := free_blk (i := 8) hEb; have ef9 := free_blk (i := 9) hEb; have ef10 := free_blk (i := 10) hEb; have ef11 := free_blk (i := 11) hEb; simp at e0 e1 e2 e3 e4 e5 e6 e7 e8 e9 e10 e11
      clear hEb
      by_cases hnR : n < R
      · obtain ⟨z, hzn⟩ : ∃ z, ss[n]? = some z := ⟨ss[n]'(by have := HRR.out; omega), List.getElem?_eq_getElem _⟩
        obtain ⟨gs, os, rfl, cs, hcs, ⟨cx, rfl, hexp⟩, hc⟩ := HSX.out n z hzn
        obtain ⟨dk, rfl⟩ : ∃ dk, d = dk + 1 := by
          cases d with
          | zero => exact hexp.elim
          | succ dk => exact ⟨dk, rfl⟩
        obtain ⟨va, rfl, hargs⟩ := hexp
        obtain ⟨zd, zt, ⟨eo, en, es, ⟨s1, s2, s3⟩, el⟩, zb, ⟨l1, l2, l3⟩⟩ := z
        simp only [Ex.args] at hargs
        obtain ⟨qx, c3, hva, -⟩ := id hargs
        subst hva
        have HBx := HBw3.out
        have t0 := cell_later HBx (hc 0 _ rfl)
        have t1 := cell_later HBx (hc 1 _ rfl)
        have t2 := cell_later HBx (hc 2 _ rfl)
        have t3 := cell_later HBx (hc 3 _ rfl)
        have t4 := cell_later HBx (hc 4 _ rfl)
        have t5 := cell_later HBx (hc 5 _ rfl)
        have t6 := cell_later HBx (hc 6 _ rfl)
        have t7 := cell_later HBx (hc 7 _ rfl)
        have t8 := cell_later HBx (hc 8 _ rfl)
        have t9 := cell_later HBx (hc 9 _ rfl)
        have t10 := cell_later HBx (hc 10 _ rfl)
        have t11 := cell_later HBx (hc 11 _ rfl)
        have t12 := cell_later HBx (hc 12 _ rfl)
        simp only [Nat.add_zero] at t0
        simp only [Ex.op, Ex.n, Ex.side, Ex.sel] at t2 t3 t4 t5 t6 t7
        have HZN := Lib.hid hzn
        have j5 : (n : Int) < (R : Int) := by omega
        have j4 : (0 : Int) ≤ (n : Int) := by omega
        have hcall2 : Hid (∀ W', Below w.heap.size w W' → Calls Try.prog 38 #[.slice qx el.length c3] W' (CopyEnds 70 7 (ExAt dk) el W')) := Lib.hid fun W' hb =>
          exprs_copy dk W' _ el (hargs.below (ExIn.stays 1 dk) hb)
        clear hzn hc hcs hargs HBx
        go_wp2_with fail
        refine (hcall2.out _ (HBw3.out.alloc HBw3.out.size _)).mono ?_
        rintro e w5 ⟨rx, rxc, rfl, hr5, b5⟩
        have h5 := (b5.block wC.heap.size (by simp)).trans (heap_alloc_new wC _)
        have hlt5 := heap_lt h5
        obtain ⟨w6, hw6⟩ : ∃ w6, w6 = (w5.setCell ⟨wC.heap.size, 8, none⟩ (.slice rx el.length rxc)).alloc (.cells #[.int .u8 zd, .int .u8 zt, .int .u8 eo, .int .i64 en, .int .u8 es, .int .u8 s1, .int .u8 s2, .int .u8 s3, .slice rx el.length rxc, .bool zb, .int .u8 l1, .int .u8 l2, .int .u8 l3] 72) := ⟨_, rfl⟩
        obtain ⟨hs6, hz6, hold, hnew, hY, hB6⟩ := two_new (by simpa using b5) hw6
        obtain ⟨css, hrowC⟩ := HR3.out
        have hst : StD (dk + 1) w6 (From wC.heap.size) (stV ⟨zd, zt, .mk eo en es ⟨s1, s2, s3⟩ el, zb, ⟨l1, l2, l3⟩⟩ (exV (.mk eo en es ⟨s1, s2, s3⟩ el) (.slice rx el.length rxc))) ⟨zd, zt, .mk eo en es ⟨s1, s2, s3⟩ el, zb, ⟨l1, l2, l3⟩⟩ := ⟨_, rfl, _, rfl, hr5.frame (ExAt.frames dk) fun j hj hl => ⟨by unfold From at hj ⊢; simp at hj; omega, hnew j (by unfold From at hj; simpa using hj) hl⟩⟩
        have hli : (ss.take n).length = n := by rw [List.length_take]; have := HRR.out; omega
        obtain ⟨ho6, hblk6, hfin⟩ := row_more (StD.frames (dk + 1)) hrowC hli HB3.out.size hold (by omega) rfl (by simp [exV, stV, efV, cdV, slV, Value.oneCell']) hst
        have HO6 := Lib.hid ho6
        have HBK6 := Lib.hid hblk6
        have HFIN := Lib.hid hfin
        have HY := Lib.hid hY
        have HW6 := Lib.hid hw6
        have HB6 : Hid (Below wi.heap.size wi w6) := Lib.hid (HB3.out.trans (hB6.mono HB3.out.size))
        have p0 := cell_blk (i := 0) h5; have p1 := cell_blk (i := 1) h5; have p2 := cell_blk (i := 2) h5; have p3 := cell_blk (i := 3) h5; have p4 := cell_blk (i := 4) h5; have p5 := cell_blk (i := 5) h5; have p6 := cell_blk (i := 6) h5; have p7 := cell_blk (i := 7) h5; have p8 := cell_blk (i := 8) h5; have p9 := cell_blk (i := 9) h5; have p10 := cell_blk (i := 10) h5; have p11 := cell_blk (i := 11) h5; have p12 := cell_blk (i := 12) h5; have pf0 := free_blk (i := 0) h5; have pf1 := free_blk (i := 1) h5; have pf2 := free_blk (i := 2) h5; have pf3 := free_blk (i := 3) h5; have pf4 := free_blk (i := 4) h5; have pf5 := free_blk (i := 5) h5; have pf6 := free_blk (i := 6) h5; have pf7 := free_blk (i := 7) h5; have pf8 := free_blk (i := 8) h5; have pf9 := free_blk (i := 9) h5; have pf10 := free_blk (i := 10) h5; have pf11 := free_blk (i := 11) h5; have pf12 := free_blk (i := 12) h5; simp at p0 p1 p2 p3 p4 p5 p6 p7 p8 p9 p10 p11 p12
        clear h5 hs6 hold hnew hY hB6 hrowC hst hli ho6 hblk6 hfin hw6 hr5 b5
        go_wp2_with (at_builtin; rw [← HW6.out]; (refine wpList_append_lies _ rfl (.tmp 56) (.tmp 58) 66 rfl 0 72 i2 _ 13 64 Try.underlying66 hi2 ht0 ht1 ht2 rfl (by omega) _ n css.flatten rfl HO6.out ⟨w5.heap.size, 0, none⟩ 1 1 (stV ⟨zd, zt, .mk eo en es ⟨s1, s2, s3⟩ el, zb, ⟨l1, l2, l3⟩⟩ (exV (.mk eo en es ⟨s1, s2, s3⟩ el) (.slice rx el.length rxc))) rfl rfl (World.news_of_block (cs := (stV ⟨zd, zt, .mk eo en es ⟨s1, s2, s3⟩ el, zb, ⟨l1, l2, l3⟩⟩ (exV (.mk eo en es ⟨s1, s2, s3⟩ el) (.slice rx el.length rxc))).toArray) (t := 72) (fr := (0, 0)) HY.out) (by simp [exV, stV, efV, cdV, slV, Value.oneCell']) (by omega) (by unfold maxLen; omega) (by omega) (Nat.zero_le _) _ rfl ?_; intro g4 cap w7 hown4 hgrow4 hat4 hlt4; have hgr4 : World.grownBy _ w7 (Value.slice f n fc).ownBlock := hgrow4))
        have hrow7 := HFIN.out g4 cap w7 hown4 hgr4 hat4
        rw [← take_next HZN.out] at hrow7
        have hB7 : Below wi.heap.size wi w7 := HB6.out.grown hgr4 HB6.out.size (fun j hj => HBK6.out j hj)
        refine ⟨⟨n + 1, _, cap, by go_num, by omega, rfl, hrow7, hB7⟩, ?_⟩
        simp [RowKit.intOf]; omega
      · obtain rfl : n = R := by omega
        have htk : ss.take n = ss := List.take_of_length_le (by have := HRR.out; omega)
        have hR3 := HR3.out
        rw [htk] at hR3
        have j5 : ¬ ((n : Int) < (n : Int)) := by omega
        obtain ⟨w6, hw6⟩ : ∃ w6, w6 = (wC.setCell ⟨wB.heap.size, 11, none⟩ (.slice f n fc)).alloc (.cells #[.int .u8 m, .int .u8 ev, .int .u8 sd, .slice ra cd.length rc, .int .i64 pay, .int .i64 dr, .bool tr, .int .i64 pk, .int .u8 k1, .int .u8 k2, .int .u8 k3, .slice f n fc] 68) := ⟨_, rfl⟩
        have hCz : wB.heap.size + 1 ≤ wC.heap.size := by have := HB3.out.size; have := HIZ.out; omega
        have hs6 : w6.heap.size = wC.heap.size + 1 := by rw [hw6]; simp
        have hset : ∀ j, j ≠ wB.heap.size → j < wC.heap.size → w6.heap[j]? = wC.heap[j]? := fun j hj hl => by
          rw [hw6, heap_alloc_old _ _ (by simp; omega), heap_setCell_other _ _ _ _ (by show j ≠ wB.heap.size; exact hj)]
        have hold : ∀ j, j < wB.heap.size → w6.heap[j]? = wB.heap[j]? := fun j hj => by
          rw [hset j (by omega) (by omega), HB3.out.block j (by have := HIZ.out; omega), HIB.out.block j hj]
        have hY : w6.heap[wC.heap.size]? = some (.cells #[.int .u8 m, .int .u8 ev, .int .u8 sd, .slice ra cd.length rc, .int .i64 pay, .int .i64 dr, .bool tr, .int .i64 pk, .int .u8 k1, .int .u8 k2, .int .u8 k3, .slice f n fc] 68 (0, 0)) := by
          rw [hw6]; have := heap_alloc_new (wC.setCell ⟨wB.heap.size, 11, none⟩ (.slice f n fc)) (.cells #[.int .u8 m, .int .u8 ev, .int .u8 sd, .slice ra cd.length rc, .int .i64 pay, .int .i64 dr, .bool tr, .int .i64 pk, .int .u8 k1, .int .u8 k2, .int .u8 k3, .slice f n fc] 68)
          rwa [show (wC.setCell ⟨wB.heap.size, 11, none⟩ (.slice f n fc)).heap.size = wC.heap.size by simp] at this
        have hB6 : Below wB.heap.size wB w6 := by
          rw [hw6]; exact ((HIB.out.trans (HB3.out.mono HIB.out.size)).setCell (p := ⟨wB.heap.size, 11, none⟩) (Nat.le_refl _) _).alloc (by simp; omega) _
        obtain ⟨css, hrowC⟩ := HR2.out
        have hef : EfD d w6 (From wB.heap.size) (efV ⟨m, ev, sd, cd, pay, dr, tr, pk, ⟨k1, k2, k3⟩, ss⟩ (.slice ra cd.length rc) (.slice f n fc)) ⟨m, ev, sd, cd, pay, dr, tr, pk, ⟨k1, k2, k3⟩, ss⟩ := by
          refine ⟨_, _, rfl, HIR.out.frame (ExAt.frames d) fun j hj hl => ?_, ?_⟩
          · unfold From at hj ⊢
            exact ⟨by omega, by rw [hset j (by omega) (by have := HB3.out.size; omega), HB3.out.block j hl]⟩
          · have hR3' := hR3
            rw [show n = ss.length from HRR.out] at hR3' ⊢
            exact hR3'.frame (StD.frames d) fun j hj hl => by
              unfold From at hj ⊢
              have := HIZ.out
              exact ⟨by omega, hset j (by omega) hl⟩
        have hli : (efs.take k).length = k := by rw [List.length_take]; have := HMM.out; omega
        obtain ⟨ho6, hblk6, hfin⟩ := row_more (EfD.frames d) hrowC hli HB2.out.size hold (by omega) rfl (by simp [exV, stV, efV, cdV, slV, Value.oneCell']) hef
        have HO6 := Lib.hid ho6
        have HBK6 := Lib.hid hblk6
        have HFIN := Lib.hid hfin
        have HY := Lib.hid hY
        have HW6 := Lib.hid hw6
        have HB6 : Hid (Below wm.heap.size wm w6) := Lib.hid (HB2.out.trans (hB6.mono HB2.out.size))
        clear hs6 hset hold hY hB6 hrowC hef hli ho6 hblk6 hfin hw6 hR3 htk
        go_wp2_with (at_builtin; rw [← HW6.out]; (refine wpList_append_lies _ rfl (.tmp 62) (.tmp 64) 60 rfl 0 68 i1 _ 12 96 Try.underlying60 hi1 hy0 hy1 hy2 rfl (by omega) _ k css.flatten rfl HO6.out ⟨wC.heap.size, 0, none⟩ 1 1 (efV ⟨m, ev, sd, cd, pay, dr, tr, pk, ⟨k1, k2, k3⟩, ss⟩ (.slice ra cd.length rc) (.slice f n fc)) rfl rfl (World.news_of_block (cs := (efV ⟨m, ev, sd, cd, pay, dr, tr, pk, ⟨k1, k2, k3⟩, ss⟩ (.slice ra cd.length rc) (.slice f n fc)).toArray) (t := 68) (fr := (0, 0)) HY.out) (by simp [exV, stV, efV, cdV, slV, Value.oneCell']) (by omega) (by unfold maxLen; omega) (by omega) (Nat.zero_le _) _ rfl ?_; intro g4 cap w7 hown4 hgrow4 hat4 hlt4; have hgr4 : World.grownBy _ w7 (Value.slice b k bc).ownBlock := hgrow4))
        have hrow7 := HFIN.out g4 cap w7 hown4 hgr4 hat4
        rw [← take_next HYK.out] at hrow7
        have hB7 : Below wm.heap.size wm w7 := HB6.out.grown hgr4 HB6.out.size (fun j hj => HBK6.out j hj)
        refine ⟨⟨k + 1, _, cap, by go_num, by omega, rfl, hrow7, hB7⟩, ?_⟩
        simp [RowKit.intOf]; omega
    · obtain rfl : k = M := by omega
      have htk : efs.take k = efs := List.take_of_length_le (by have := HMM.out; omega)
      have hR2 := HR2.out
      rw [htk] at hR2
      have j3 : ¬ ((k : Int) < (k : Int)) := by omega
      obtain ⟨w6, hw6⟩ : ∃ w6, w6 = (wB.setCell ⟨wA.heap.size, 5, none⟩ (.slice b k bc)).alloc (.cells #[.string nm, .int .u8 kd, .int .i64 lv, .int .i64 at_, .int .i64 gd, .slice b k bc] 62) := ⟨_, rfl⟩
      have hBz : wA.heap.size + 1 ≤ wB.heap.size := by have := HB2.out.size; have := HMS.out; omega
      have hs6 : w6.heap.size = wB.heap.size + 1 := by rw [hw6]; simp
      have hset : ∀ j, j ≠ wA.heap.size → j < wB.heap.size → w6.heap[j]? = wB.heap[j]? := fun j hj hl => by
        rw [hw6, heap_alloc_old _ _ (by simp; omega), heap_setCell_other _ _ _ _ (by show j ≠ wA.heap.size; exact hj)]
      have hold : ∀ j, j < wA.heap.size → w6.heap[j]? = wA.heap[j]? := fun j hj => by
        rw [hset j (by omega) (by omega), HB2.out.block j (by have := HMS.out; omega), HMB.out.block j hj]
      have hY : w6.heap[wB.heap.size]? = some (.cells #[.string nm, .int .u8 kd, .int .i64 lv, .int .i64 at_, .int .i64 gd, .slice b k bc] 62 (0, 0)) := by
        rw [hw6]; have := heap_alloc_new (wB.setCell ⟨wA.heap.size, 5, none⟩ (.slice b k bc)) (.cells #[.string nm, .int .u8 kd, .int .i64 lv, .int .i64 at_, .int .i64 gd, .slice b k bc] 62)
        rwa [show (wB.setCell ⟨wA.heap.size, 5, none⟩ (.slice b k bc)).heap.size = wB.heap.size by simp] at this
      have hB6 : Below wA.heap.size wA w6 := by
        rw [hw6]; exact ((HMB.out.trans (HB2.out.mono HMB.out.size)).setCell (p := ⟨wA.heap.size, 5, none⟩) (Nat.le_refl _) _).alloc (by simp; omega) _
      obtain ⟨css, hrowC⟩ := HR.out
      have hcd : CdD d w6 (From wA.heap.size) (cdV ⟨nm, kd, lv, at_, gd, efs⟩ (.slice b k bc)) ⟨nm, kd, lv, at_, gd, efs⟩ := by
        refine ⟨_, rfl, HNM.out, ?_⟩
        rw [show k = efs.length from HMM.out] at hR2 ⊢
        exact hR2.frame (EfD.frames d) fun j hj hl => by
          unfold From at hj ⊢
          have := HMS.out
          exact ⟨by omega, hset j (by omega) hl⟩
      have hli : (xs.take i).length = i := by rw [List.length_take]; have := HN.out; omega
      obtain ⟨ho6, hblk6, hfin⟩ := row_more (CdD.frames d) hrowC hli HB.out.size hold (by omega) rfl (by simp [exV, stV, efV, cdV, slV, Value.oneCell']) hcd
      have HO6 := Lib.hid ho6
      have HBK6 := Lib.hid hblk6
      have HFIN := Lib.hid hfin
      have HY := Lib.hid hY
      have HW6 := Lib.hid hw6
      have HB6 : Hid (Below w.heap.size w w6) := Lib.hid (HB.out.trans (hB6.mono HB.out.size))
      clear hs6 hset hold hY hB6 hrowC hcd hli ho6 hblk6 hfin hw6 hR2 htk
      go_wp2_with (at_builtin; rw [← HW6.out]; (refine wpList_append_lies _ rfl (.tmp 68) (.tmp 70) 22 rfl 0 62 i0 _ 6 72 Try.underlying22 hi0 hz0 hz1 hz2 rfl (by omega) _ i css.flatten rfl HO6.out ⟨wB.heap.size, 0, none⟩ 1 1 (cdV ⟨nm, kd, lv, at_, gd, efs⟩ (.slice b k bc)) rfl rfl (World.news_of_block (cs := (cdV ⟨nm, kd, lv, at_, gd, efs⟩ (.slice b k bc)).toArray) (t := 62) (fr := (0, 0)) HY.out) (by simp [exV, stV, efV, cdV, slV, Value.oneCell']) (by omega) (by unfold maxLen; omega) (by omega) (Nat.zero_le _) _ rfl ?_; intro g4 cap w7 hown4 hgrow4 hat4 hlt4; have hgr4 : World.grownBy _ w7 (Value.slice a i cc).ownBlock := hgrow4))
      have hrow7 := HFIN.out g4 cap w7 hown4 hgr4 hat4
      rw [← take_next HXI.out] at hrow7
      have hB7 : Below w.heap.size w w7 := HB6.out.grown hgr4 HB6.out.size (fun j hj => HBK6.out j hj)
      refine ⟨⟨i + 1, _, cap, by go_num, by omega, rfl, hrow7, hB7⟩, ?_⟩
      simp [RowKit.intOf]; omega
  · obtain rfl : i = N := by omega
    have ht : xs.take i = xs := List.take_of_length_le (by have := HN.out; omega)
    have hR := HR.out
    rw [ht] at hR
    have HR2 := Lib.hid hR
    clear ht hR
    go_wp2
    go_ret
    exact ⟨a, cc, congrArg (fun n => Ending.returned (.slice a n cc)) HN.out, by rw [← HN.out]; exact HR2.out, HB.out⟩
end Go.Proofs.Ytfdehhibgdeedaa

/- The document's Copy of a table, walked. -/
namespace Go.Proofs.Ytfdehhibgdeedaa
open Go.RowKit Go.Lib

/-- A table that came in. -/
structure CameT (w : World) (D : Nat) (t : Tb) (xs : List Cd) (ps : List Pc) (es : List Ev) : Prop where
  kinds : RowIn w 6 72 (CdIn 1 D) (.slice t.qk t.nk t.ck) xs
  pieces : RowIn w 14 72 PcIn (.slice t.qp t.np t.cp) ps
  events : RowIn w 4 32 EvIn (.slice t.qe t.ne t.ce) es
theorem CameT.below {w w' : World} {D : Nat} {t : Tb} {xs : List Cd} {ps : List Pc} {es : List Ev} (h : CameT w D t xs ps es) (hb : Below w.heap.size w w') : CameT w' D t xs ps es :=
  ⟨h.kinds.below (CdIn.stays 1 D) hb, h.pieces.below PcIn.stays hb, h.events.below (fun _ _ _ _ h _ => h) hb⟩
/-- A table's copy: its pieces lie in a block of their own. -/
structure DupT (w' : World) (B D : Nat) (t u : Tb) (xs : List Cd) (ps : List Pc) (g : Nat) : Prop where
  kinds : RowAt w' (fun k => B ≤ k ∧ k ≠ g) 62 6 (CdD D) (.slice u.qk xs.length u.ck) xs
  nk : u.nk = xs.length
  np : u.np = ps.length
  new : B ≤ g
  pcs : ps.length ≠ 0 → u.qp = some ⟨g, 0, none⟩ ∧ ∃ tail : Array Value, w'.heap[g]? = some (.cells ((ps.map pcV).flatten.toArray ++ tail) 45 (0, 0))
  rest : u.l0 = t.l0 ∧ u.l1 = t.l1 ∧ u.tn = t.tn ∧ u.py = t.py
/-- A store into a block of cells: all else stays. -/
theorem set_other {w : World} {b i k : Nat} {v : Value} (h : k ≠ b) : (w.setCell ⟨b, i, none⟩ v).heap[k]? = w.heap[k]? := heap_setCell_other _ _ _ _ (by show k ≠ b; exact h)
theorem set_same {w : World} {b i : Nat} {cs : Array Value} {t : TypeId} {v : Value} (h : w.heap[b]? = some (.cells cs t (0, 0))) : (w.setCell ⟨b, i, none⟩ v).heap[b]? = some (.cells (cs.setIfInBounds i v) t (0, 0)) := heap_setCell_same _ _ _ _ _ _ h
theorem set_below {B : Nat} {w0 w : World} {b i : Nat} {v : Value} (h : Below B w0 w) (hb : B ≤ b) : Below B w0 (w.setCell ⟨b, i, none⟩ v) :=
  h.trans ⟨rfl, rfl, rfl, by simp [World.setCell], fun k hk => set_other (by omega)⟩

set_option maxHeartbeats 8000000 in
set_option maxRecDepth 100000 in
theorem dup_any (D : Nat) (t : Tb) (xs : List Cd) (ps : List Pc) (es : List Ev) (w : World) (h : CameT w D t xs ps es) :
    Calls Try.prog 8 #[.agg t.row] w fun e w' => (∃ u g, e = .returned (.agg u.row) ∧ DupT w' w.heap.size D t u xs ps g) ∧ Below w.heap.size w w' := by
  obtain ⟨qk, nk, ck, qp, np, cp, tl0, tl1, tn, py, mo, qe, ne, ce, b0, b1⟩ := t
  obtain ⟨hK, hP, hE⟩ := h
  dsimp only at hK hP hE
  have hcopy := Lib.hid fun (W : World) (hb : Below w.heap.size w W) => copied_any D W _ xs (hK.below (CdIn.stays 1 D) hb)
  have hnp : np = ps.length := by obtain ⟨q, c, hv, -⟩ := hP; simp only [Value.slice.injEq] at hv; exact hv.2.1
  have hne : ne = es.length := by obtain ⟨q, c, hv, -⟩ := hE; simp only [Value.slice.injEq] at hv; exact hv.2.1
  subst hnp hne
  have HP := Lib.hid hP
  have HE := Lib.hid hE
  clear hK hP hE
  obtain ⟨z, hz⟩ : ∃ z : Array Value, z = #[.slice none 0 0, .slice none 0 0, .int .i64 0, .int .i64 0, .int .i64 0, .int .u8 0, .int .i64 0, .slice none 0 0, .bool false, .bool false] := ⟨_, rfl⟩
  obtain ⟨w0, hw0⟩ : ∃ w0, w0 = (w.alloc (.cells #[.slice qk nk ck, .slice qp ps.length cp, .int .i64 tl0, .int .i64 tl1, .int .i64 tn, .int .u8 py, .int .i64 mo, .slice qe es.length ce, .bool b0, .bool b1] 28)).alloc (.cells #[.slice none 0 0, .slice none 0 0, .int .i64 0, .int .i64 0, .int .i64 0, .int .u8 0, .int .i64 0, .slice none 0 0, .bool false, .bool false] 28) := ⟨_, rfl⟩
  have hb0 : Below w.heap.size w w0 := by rw [hw0]; exact ((Below.refl _ _).alloc (Nat.le_refl _) _).alloc (by simp) _
  have hx0 : w0.heap[w.heap.size]? = some (.cells #[.slice qk nk ck, .slice qp ps.length cp, .int .i64 tl0, .int .i64 tl1, .int .i64 tn, .int .u8 py, .int .i64 mo, .slice qe es.length ce, .bool b0, .bool b1] 28 (0, 0)) := by rw [hw0]; exact heap_older (heap_alloc_new _ _)
  have hy0 : w0.heap[w.heap.size + 1]? = some (.cells z 28 (0, 0)) := by rw [hw0, hz]; exact heap_newer _ _ _ (by simp)
  have HB0 := Lib.hid hb0
  have HX0 := Lib.hid hx0
  have HY0 := Lib.hid hy0
  have HW0 := Lib.hid hw0
  have HZ := Lib.hid hz
  clear hb0 hx0 hy0 hw0 hz
  simp only [Tb.row] at *
  go_enter Try.func8, Try.ntmps8
  go_wp2_with fail
  rw [← HW0.out]
  refine (hcopy.out w0 HB0.out).mono ?_
  rintro e w1 ⟨ka, kc, rfl, hrow, b1'⟩
  have HR := Lib.hid hrow
  have HB1 := Lib.hid (HB0.out.trans (b1'.mono HB0.out.size))
  have B1 := Lib.hid b1'
  have hx1 := (b1'.block _ (heap_lt HX0.out)).trans HX0.out
  have hy1 := (b1'.block _ (heap_lt HY0.out)).trans HY0.out
  have HX1 := Lib.hid hx1
  have HY1 := Lib.hid hy1
  have lt1 := heap_lt hx1
  have fz1 : w1.frozen? ⟨w.heap.size, 0, none⟩ = false := by simp [World.frozen?, hx1]
  have y0 := cell_blk (i := 0) HX1.out
  have y1 := cell_blk (i := 1) HX1.out
  have y2 := cell_blk (i := 2) HX1.out
  have y3 := cell_blk (i := 3) HX1.out
  have y4 := cell_blk (i := 4) HX1.out
  have y5 := cell_blk (i := 5) HX1.out
  have y6 := cell_blk (i := 6) HX1.out
  have y7 := cell_blk (i := 7) HX1.out
  have y8 := cell_blk (i := 8) HX1.out
  have y9 := cell_blk (i := 9) HX1.out
  simp at y0 y1 y2 y3 y4 y5 y6 y7 y8 y9
  clear hrow b1' hx1 hy1
  -- the kinds are in their place
  obtain ⟨w2, hw2⟩ : ∃ w2, w2 = w1.setCell ⟨w.heap.size, 0, none⟩ (.slice ka xs.length kc) := ⟨_, rfl⟩
  have b2 : Below w.heap.size w w2 := by rw [hw2]; exact set_below HB1.out (Nat.le_refl _)
  have hx2 : w2.heap[w.heap.size]? = some (.cells #[.slice ka xs.length kc, .slice qp ps.length cp, .int .i64 tl0, .int .i64 tl1, .int .i64 tn, .int .u8 py, .int .i64 mo, .slice qe es.length ce, .bool b0, .bool b1] 28 (0, 0)) := by rw [hw2, heap_setCell_same _ _ _ _ _ _ HX1.out]; rfl
  have hy2 : w2.heap[w.heap.size + 1]? = some (.cells z 28 (0, 0)) := by rw [hw2]; exact (set_other (by omega)).trans HY1.out
  obtain ⟨pa, pc, w3, hr3, b3, hp3⟩ := pcs_append (HP.out.below PcIn.stays b2)
  have b3w := b2.trans (b3.mono b2.size)
  have hx3 := (b3.block _ (heap_lt hx2)).trans hx2
  have hy3 := (b3.block _ (heap_lt hy2)).trans hy2
  have lt3 := heap_lt hx3
  have fz3 : w3.frozen? ⟨w.heap.size, 0 + 1, none⟩ = false := by simp [World.frozen?, hx3]
  have u7 := cell_blk (i := 7) hx3
  have u1 := cell_blk (i := 1) hx3
  simp at u7 u1
  -- the pieces are in their place
  obtain ⟨w4, hw4⟩ : ∃ w4, w4 = w3.setCell ⟨w.heap.size, 1, none⟩ (.slice pa ps.length pc) := ⟨_, rfl⟩
  have b4 : Below w.heap.size w w4 := by rw [hw4]; exact set_below b3w (Nat.le_refl _)
  have hx4 : w4.heap[w.heap.size]? = some (.cells #[.slice ka xs.length kc, .slice pa ps.length pc, .int .i64 tl0, .int .i64 tl1, .int .i64 tn, .int .u8 py, .int .i64 mo, .slice qe es.length ce, .bool b0, .bool b1] 28 (0, 0)) := by rw [hw4, heap_setCell_same _ _ _ _ _ _ hx3]; rfl
  have hy4 : w4.heap[w.heap.size + 1]? = some (.cells z 28 (0, 0)) := by rw [hw4]; exact (set_other (by omega)).trans hy3
  obtain ⟨ea, ec, w5, hr5, b5, -⟩ := evs_append (HE.out.below (fun _ _ _ _ h _ => h) b4)
  have b5w := b4.trans (b5.mono b4.size)
  have hx5 := (b5.block _ (heap_lt hx4)).trans hx4
  have hy5 := (b5.block _ (heap_lt hy4)).trans hy4
  have lt5 := heap_lt hx5
  have lt5' := heap_lt hy5
  have fz5 : w5.frozen? ⟨w.heap.size, 0 + 7, none⟩ = false := by simp [World.frozen?, hx5]
  simp only [Nat.zero_add] at fz3 fz5
  have fy5 : ∀ k, w5.frozen? ⟨w.heap.size + 1, k, none⟩ = false := fun k => by simp [World.frozen?, hy5]
  have v0 := cell_blk (i := 0) hx5; have v1 := cell_blk (i := 1) hx5; have v2 := cell_blk (i := 2) hx5; have v3 := cell_blk (i := 3) hx5; have v4 := cell_blk (i := 4) hx5
  have v5 := cell_blk (i := 5) hx5; have v6 := cell_blk (i := 6) hx5; have v7 := cell_blk (i := 7) hx5; have v8 := cell_blk (i := 8) hx5; have v9 := cell_blk (i := 9) hx5
  have z0 := cell_blk (i := 0) hy5; have z1 := cell_blk (i := 1) hy5; have z2 := cell_blk (i := 2) hy5; have z3 := cell_blk (i := 3) hy5; have z4 := cell_blk (i := 4) hy5
  have z5 := cell_blk (i := 5) hy5; have z6 := cell_blk (i := 6) hy5; have z7 := cell_blk (i := 7) hy5; have z8 := cell_blk (i := 8) hy5; have z9 := cell_blk (i := 9) hy5
  simp [HZ.out] at v0 v1 v2 v3 v4 v5 v6 v7 v8 v9 z0 z1 z2 z3 z4 z5 z6 z7 z8 z9
  have HW2 := Lib.hid hw2
  have HW4 := Lib.hid hw4
  have HR3 := Lib.hid hr3
  have HR5 := Lib.hid hr5
  have B2 := Lib.hid b2
  have B3 := Lib.hid b3
  have B4 := Lib.hid b4
  have B5 := Lib.hid b5
  have B5W := Lib.hid b5w
  have HP3 := Lib.hid hp3
  have X5 := Lib.hid hx5
  have Y5 := Lib.hid hy5
  clear hw2 hr3 b2 b3 b3w hp3 hx2 hy2 hx3 hy3 hw4 b4 hx4 hy4 hr5 b5 b5w hx5 hy5
  go_wp2_with (at_builtin; first | (rw [← HW2.out]; refine wpList_append_ran rfl (.tmp 9) (.tmp 11) 23 rfl rfl rfl HR3.out ?_) | (rw [← HW4.out]; refine wpList_append_ran rfl (.tmp 14) (.tmp 16) 25 rfl rfl rfl HR5.out ?_))
  obtain ⟨W, hW⟩ : ∃ W, W = (((((((((((w5.setCell ⟨w.heap.size, 7, none⟩ (.slice ea es.length ec)).setCell ⟨w.heap.size + 1, 0, none⟩ (.slice ka xs.length kc)).setCell ⟨w.heap.size + 1, 1, none⟩ (.slice pa ps.length pc)).setCell ⟨w.heap.size + 1, 2, none⟩ (.int .i64 tl0)).setCell ⟨w.heap.size + 1, 3, none⟩ (.int .i64 tl1)).setCell ⟨w.heap.size + 1, 4, none⟩ (.int .i64 tn)).setCell ⟨w.heap.size + 1, 5, none⟩ (.int .u8 py)).setCell ⟨w.heap.size + 1, 6, none⟩ (.int .i64 mo)).setCell ⟨w.heap.size + 1, 7, none⟩ (.slice ea es.length ec)).setCell ⟨w.heap.size + 1, 8, none⟩ (.bool b0)).setCell ⟨w.heap.size + 1, 9, none⟩ (.bool b1)) := ⟨_, rfl⟩
  rw [← hW]
  have q0 : (w5.setCell ⟨w.heap.size, 7, none⟩ (.slice ea es.length ec)).heap[w.heap.size + 1]? = some (.cells z 28 (0, 0)) := (set_other (by omega)).trans Y5.out
  rw [HZ.out] at q0
  have q1 := set_same (i := 0) (v := (.slice ka xs.length kc : Value)) q0
  simp only [List.setIfInBounds_toArray, List.set_cons_zero, List.set_cons_succ] at q1
  have q2 := set_same (i := 1) (v := (.slice pa ps.length pc : Value)) q1
  simp only [List.setIfInBounds_toArray, List.set_cons_zero, List.set_cons_succ] at q2
  have q3 := set_same (i := 2) (v := (.int .i64 tl0 : Value)) q2
  simp only [List.setIfInBounds_toArray, List.set_cons_zero, List.set_cons_succ] at q3
  have q4 := set_same (i := 3) (v := (.int .i64 tl1 : Value)) q3
  simp only [List.setIfInBounds_toArray, List.set_cons_zero, List.set_cons_succ] at q4
  have q5 := set_same (i := 4) (v := (.int .i64 tn : Value)) q4
  simp only [List.setIfInBounds_toArray, List.set_cons_zero, List.set_cons_succ] at q5
  have q6 := set_same (i := 5) (v := (.int .u8 py : Value)) q5
  simp only [List.setIfInBounds_toArray, List.set_cons_zero, List.set_cons_succ] at q6
  have q7 := set_same (i := 6) (v := (.int .i64 mo : Value)) q6
  simp only [List.setIfInBounds_toArray, List.set_cons_zero, List.set_cons_succ] at q7
  have q8 := set_same (i := 7) (v := (.slice ea es.length ec : Value)) q7
  simp only [List.setIfInBounds_toArray, List.set_cons_zero, List.set_cons_succ] at q8
  have q9 := set_same (i := 8) (v := (.bool b0 : Value)) q8
  simp only [List.setIfInBounds_toArray, List.set_cons_zero, List.set_cons_succ] at q9
  have q10 := set_same (i := 9) (v := (.bool b1 : Value)) q9
  simp only [List.setIfInBounds_toArray, List.set_cons_zero, List.set_cons_succ] at q10
  have hB1 : W.heap[w.heap.size + 1]? = some (.cells #[.slice ka xs.length kc, .slice pa ps.length pc, .int .i64 tl0, .int .i64 tl1, .int .i64 tn, .int .u8 py, .int .i64 mo, .slice ea es.length ec, .bool b0, .bool b1] 28 (0, 0)) := by rw [hW]; exact q10
  clear q0 q1 q2 q3 q4 q5 q6 q7 q8 q9 q10
  have hWk : ∀ k, k ≠ w.heap.size → k ≠ w.heap.size + 1 → W.heap[k]? = w5.heap[k]? := fun k h0 h1 => by
    rw [hW]
    exact (set_other h1).trans ((set_other h1).trans ((set_other h1).trans ((set_other h1).trans ((set_other h1).trans ((set_other h1).trans ((set_other h1).trans ((set_other h1).trans ((set_other h1).trans ((set_other h1).trans (set_other h0))))))))))
  have n1 : w.heap.size ≤ w.heap.size + 1 := Nat.le_succ _
  have hWb : Below w.heap.size w W := by
    rw [hW]
    exact set_below (set_below (set_below (set_below (set_below (set_below (set_below (set_below (set_below (set_below (set_below B5W.out (Nat.le_refl _)) n1) n1) n1) n1) n1) n1) n1) n1) n1) n1
  have s0 := heap_lt HY0.out
  have s1 := B1.out.size
  have s2 : w2.heap.size = w1.heap.size := by rw [HW2.out]; simp [World.setCell]
  have s3 := B3.out.size
  have s4 : w4.heap.size = w3.heap.size := by rw [HW4.out]; simp [World.setCell]
  have s5 := B5.out.size
  have h53 : ∀ k, k ≠ w.heap.size → k < w3.heap.size → w5.heap[k]? = w3.heap[k]? := fun k h0 hk => (B5.out.block k (by omega)).trans (by rw [HW4.out]; exact set_other h0)
  clear hW
  refine bodyPost_ret (results_cell_row rfl _ _ (w.heap.size + 1) _ _ _ _ rfl hB1 rfl rfl (by kernel_rfl)) rfl ?_
  refine ⟨⟨⟨ka, xs.length, kc, pa, ps.length, pc, tl0, tl1, tn, py, mo, ea, es.length, ec, b0, b1⟩, w2.heap.size, rfl, ⟨HR.out.frame (CdD.frames D) fun k hk hl => ⟨⟨?_, ?_⟩, ?_⟩, rfl, rfl, by omega, fun hn => ?_, rfl, rfl, rfl, rfl⟩⟩, hWb⟩
  · have hk : w0.heap.size ≤ k := hk
    omega
  · omega
  · have hk : w0.heap.size ≤ k := hk
    rw [hWk k (by omega) (by omega), h53 k (by omega) (by omega), B3.out.block k (by omega), HW2.out]
    exact set_other (by omega)
  · obtain ⟨e1, tail, e2⟩ := HP3.out hn
    refine ⟨e1, tail, ?_⟩
    rw [hWk _ (by omega) (by omega), h53 _ (by omega) (heap_lt e2)]
    exact e2
end Go.Proofs.Ytfdehhibgdeedaa

/- A table's copy is a table of the same lists. -/
namespace Go.Proofs.Ytfdehhibgdeedaa
open Go.RowKit Go.Lib

theorem pcs_block {w : World} {g cap : Nat} {ps : List Pc} {tail : Array Value} {ty : TypeId} (hb : w.heap[g]? = some (.cells ((ps.map pcV).flatten.toArray ++ tail) ty (0, 0))) (h1 : ps.length ≤ maxLen) : RowIn w 14 0 PcIn (.slice (some ⟨g, 0, none⟩) ps.length cap) ps := by
  refine ⟨_, _, rfl, h1, by omega, fun i x hx => ?_⟩
  refine ⟨g, 0, rfl, pcV x, rfl, rfl, fun j u hu => ?_⟩
  have hj : j < 14 := (List.getElem?_eq_some_iff.1 hu).1
  have hf := flat_get (size := 14) (ps.map pcV) (fun c hc => by obtain ⟨p, -, rfl⟩ := List.mem_map.1 hc; rfl) i j (pcV x) (by simp [hx]) hj
  rw [hu] at hf
  have hl := (List.getElem?_eq_some_iff.1 hf).1
  rw [cell_blk hb, Nat.zero_add, Array.getElem?_append_left (by simpa using hl), List.getElem?_toArray]
  exact hf
theorem DupT.tab {w' : World} {B D : Nat} {t u : Tb} {xs : List Cd} {ps : List Pc} {g : Nat} (h : DupT w' B D t u xs ps g) (h1 : xs.length ≤ 140737488355328) (h2 : ps.length ≤ 140737488355328) : TabIn w' u xs ps := by
  refine ⟨⟨D + 1, ?_⟩, ?_, h1, h2⟩
  · rw [h.nk]
    exact CdD.toIn h.kinds
  · rw [h.np]
    by_cases h0 : ps.length = 0
    · obtain rfl := List.length_eq_zero_iff.1 h0
      exact RowIn.nil _ _ _ _ _ _
    · obtain ⟨e, tail, hb⟩ := h.pcs h0
      rw [e]
      exact pcs_block hb (by unfold maxLen; omega)

theorem flat_put {size : Nat} {v : Value} : ∀ (css : List (List Value)), (∀ c ∈ css, c.length = size) → ∀ (i j : Nat) (c : List Value), css[i]? = some c → j < size → css.flatten.set (i * size + j) v = (css.set i (c.set j v)).flatten
  | [], _, i, j, c, h, _ => by simp at h
  | d :: l, hs, 0, j, c, h, hj => by
    simp at h; subst h
    have hd := hs d List.mem_cons_self
    rw [Nat.zero_mul, Nat.zero_add, List.flatten_cons, List.set_cons_zero, List.flatten_cons, List.set_append_left _ _ (by omega)]
  | d :: l, hs, i + 1, j, c, h, hj => by
    have hd := hs d List.mem_cons_self
    have ih := flat_put (v := v) l (fun c hc => hs c (List.mem_cons_of_mem _ hc)) i j c (by simpa using h) hj
    rw [List.flatten_cons, List.set_cons_succ, List.flatten_cons, ← ih, List.set_append_right _ _ (by rw [hd, Nat.succ_mul]; omega)]
    congr 2
    rw [hd, Nat.succ_mul]
    omega
/-- A piece's Up is written. -/
theorem DupT.set {w' : World} {B D : Nat} {t u : Tb} {xs : List Cd} {ps : List Pc} {g : Nat} (h : DupT w' B D t u xs ps g) {i : Nat} {p : Pc} (hi : ps[i]? = some p) (b : Bool) :
    DupT (w'.setCell ⟨g, i * 14 + 7, none⟩ (.bool b)) B D t u xs (ps.set i { p with up := b }) g := by
  have hil := (List.getElem?_eq_some_iff.1 hi).1
  refine ⟨h.kinds.frame (CdD.frames D) fun k hk hl => ⟨hk, set_other hk.2⟩, h.nk, by rw [List.length_set]; exact h.np, h.new, fun h0 => ?_, h.rest⟩
  rw [List.length_set] at h0
  obtain ⟨e, tail, hb⟩ := h.pcs h0
  refine ⟨e, tail, ?_⟩
  rw [set_same hb]
  have hs : ∀ c ∈ ps.map pcV, c.length = 14 := fun c hc => by obtain ⟨p, -, rfl⟩ := List.mem_map.1 hc; rfl
  have hf := flat_get (size := 14) (ps.map pcV) hs i 7 (pcV p) (by simp [hi]) (by omega)
  have hl : i * 14 + 7 < (ps.map pcV).flatten.length := (List.getElem?_eq_some_iff.1 (hf.trans (show (pcV p)[7]? = some (.bool p.up) from rfl))).1
  have e2 : (((ps.map pcV).flatten.toArray ++ tail).setIfInBounds (i * 14 + 7) (.bool b)) = ((ps.set i { p with up := b }).map pcV).flatten.toArray ++ tail := by
    apply Array.ext'
    have hp := flat_put (v := .bool b) (ps.map pcV) hs i 7 (pcV p) (by simp [hi]) (by omega)
    rw [show (pcV p).set 7 (.bool b) = pcV { p with up := b } from rfl, ← List.map_set] at hp
    rw [Array.toList_setIfInBounds, Array.toList_append, Array.toList_append, List.toList_toArray, List.toList_toArray, List.set_append_left _ _ hl, hp]
  rw [e2]
end Go.Proofs.Ytfdehhibgdeedaa
