/- joustref00.exprs: expressions of whatever depth are copied. -/
import Derived.Test.YtomhlgamdmcneaaTbIn
import Derived.Deep.AppendLies
import Derived.Deep.DeepCutAuto
import Derived.Deep.RegionHeld3
import Derived.StillTailTactics
namespace Go.Proofs.Ytomhlgamdmcneaa
open Go.RowKit Go.Lib

theorem ex_info : (Try.prog.info? 54).map (fun i => (i.zero, i.size, i.bytes)) = some (some (.agg #[.int .u8 0, .int .i64 0, .int .u8 0, .int .u8 0, .int .u8 0, .int .u8 0, .slice none 0 0]), 7, 48) := by kernel_rfl
theorem st_info : (Try.prog.info? 56).map (fun i => (i.zero, i.size, i.bytes)) = some (some (.agg #[.int .u8 0, .int .u8 0, .int .u8 0, .int .i64 0, .int .u8 0, .int .u8 0, .int .u8 0, .int .u8 0, .slice none 0 0, .bool false, .int .u8 0, .int .u8 0, .int .u8 0]), 13, 64) := by kernel_rfl
theorem ef_info : (Try.prog.info? 44).map (fun i => (i.zero, i.size, i.bytes)) = some (some (.agg #[.int .u8 0, .int .u8 0, .int .u8 0, .slice none 0 0, .int .i64 0, .int .i64 0, .bool false, .int .i64 0, .int .u8 0, .int .u8 0, .int .u8 0, .slice none 0 0]), 12, 96) := by kernel_rfl
theorem cd_info : (Try.prog.info? 38).map (fun i => (i.zero, i.size, i.bytes)) = some (some (.agg #[.string ⟨#[]⟩, .int .u8 0, .int .i64 0, .int .i64 0, .int .i64 0, .slice none 0 0]), 6, 72) := by kernel_rfl

/-- What copies of a row are. -/
def CopyEnds {α : Type} (ty : TypeId) (size : Nat) (P : World → (Nat → Prop) → List Value → α → Prop) (xs : List α) (w : World) (e : Ending) (w' : World) : Prop :=
  ∃ a c, e = .returned (.slice a xs.length c) ∧ RowAt w' (From w.heap.size) ty size P (.slice a xs.length c) xs ∧ Below w.heap.size w w'
theorem grown_below {B : Nat} {w w1 w2 : World} {o : Option Nat} (h : Below B w w1) (hg : w1.grownBy w2 o) (hB : B ≤ w1.heap.size) (ho : ∀ k, o = some k → B ≤ k) : Below B w w2 := h.grown hg hB ho
theorem take_next {α : Type} {xs : List α} {i : Nat} {x : α} (h : xs[i]? = some x) : xs.take (i + 1) = xs.take i ++ [x] := by rw [List.take_add_one, h]; rfl

set_option maxHeartbeats 4000000 in
set_option maxRecDepth 100000 in
theorem exprs_by_copy (d : Nat) (ih : ∀ k, d = k + 1 → ∀ (w : World) (v : Value) (xs : List Ex), RowIn w 7 48 (ExIn 1 k) v xs → Calls Try.prog 31 #[v] w (CopyEnds 54 7 (ExAt k) xs w))
    (w : World) (v : Value) (xs : List Ex) (h : RowIn w 7 48 (ExIn 1 d) v xs) : Calls Try.prog 31 #[v] w (CopyEnds 54 7 (ExAt d) xs w) := by
  obtain ⟨q, c, rfl, hl, hm, hx⟩ := h
  unfold maxLen at hl
  have HX := Lib.hid hx
  have HI := Lib.hid ih
  obtain ⟨i0, hi0, hz0, hz1, hz2⟩ := info_parts ex_info
  obtain ⟨N, hN⟩ : ∃ N, N = xs.length := ⟨_, rfl⟩
  rw [← hN] at hl hm ⊢
  have HN := Lib.hid hN
  have HF : Hid (∀ W : World, CopyEnds 54 7 (ExAt d) xs w = CopyEnds 54 7 (ExAt d) xs w) := Lib.hid fun _ => rfl
  clear hx ih hN HF
  go_enter Try.func31, Try.ntmps31
  go_wp2
  go_loopw [3, 4] (fun vo vi wr => ∃ (i : Nat) (a : Option Addr) (cc : Nat), vi = .int .i64 i ∧ i ≤ N ∧ vo = .slice a i cc ∧ RowAt wr (From w.heap.size) 54 7 (ExAt d) (.slice a i cc) (xs.take i) ∧ Below w.heap.size w wr) (fun _ vi _ => N - (RowKit.intOf vi).toNat)
  case atStart => exact ⟨0, none, 0, by rfl, by omega, rfl, by rw [List.take_zero]; exact RowAt.nil _ _ _ _ _, Below.refl _ _⟩
  case round =>
    obtain ⟨i, a, cc, rfl, hi, rfl, hrow, hbw⟩ := hrel
    have HR := Lib.hid hrow
    have HB := Lib.hid hbw
    clear hrow hbw
    by_cases hlt : i < N
    · obtain ⟨x, hxi⟩ : ∃ x, xs[i]? = some x := ⟨xs[i]'(by have := HN.out; omega), List.getElem?_eq_getElem _⟩
      obtain ⟨g, o, rfl, cs, hcs, hp, hc⟩ := HX.out i x hxi
      obtain ⟨k, rfl⟩ : ∃ k, d = k + 1 := by
        cases d with
        | zero => exact hp.elim
        | succ k => exact ⟨k, rfl⟩
      obtain ⟨va, rfl, hra⟩ := hp
      have a0 := cell_later HB.out (hc 0 _ rfl)
      have a1 := cell_later HB.out (hc 1 _ rfl)
      have a2 := cell_later HB.out (hc 2 _ rfl)
      have a3 := cell_later HB.out (hc 3 _ rfl)
      have a4 := cell_later HB.out (hc 4 _ rfl)
      have a5 := cell_later HB.out (hc 5 _ rfl)
      have a6 := cell_later HB.out (hc 6 _ rfl)
      simp only [Nat.add_zero] at a0
      have HXI := Lib.hid hxi
      have i1 : (i : Int) < (N : Int) := by omega
      have i0' : (0 : Int) ≤ (i : Int) := by omega
      have hcall : Hid (∀ W', Below w.heap.size w W' → Calls Try.prog 31 #[va] W' (CopyEnds 54 7 (ExAt k) x.args W')) := Lib.hid fun W' hb =>
        HI.out k rfl W' va x.args (hra.below (ExIn.stays 1 k) hb)
      obtain ⟨qa, ca, hva, -⟩ := hra
      subst hva
      clear hxi hc hcs
      go_wp2_with fail
      refine (hcall.out _ (HB.out.alloc HB.out.size _)).mono ?_
      rintro e w2 ⟨ra, rc, rfl, hr2, b2⟩
      have h2 := (b2.block wr.heap.size (by simp)).trans (heap_alloc_new wr _)
      have hlt2 := heap_lt h2
      have hB2 : Below w.heap.size w w2 := (HB.out.alloc HB.out.size _).trans (b2.mono (by have := HB.out.size; simp; omega))
      obtain ⟨w3, hw3⟩ : ∃ w3, w3 = (w2.setCell ⟨wr.heap.size, 6, none⟩ (.slice ra x.args.length rc)).alloc (.cells #[.int .u8 x.op, .int .i64 x.n, .int .u8 x.side, .int .u8 x.sel.side, .int .u8 x.sel.zone, .int .u8 x.sel.kind, .slice ra x.args.length rc] 54) := ⟨_, rfl⟩
      have hs3 : w3.heap.size = w2.heap.size + 1 := by rw [hw3]; simp
      have hB3 : Below w.heap.size w w3 := by rw [hw3]; exact (hB2.setCell (p := ⟨wr.heap.size, 6, none⟩) HB.out.size _).alloc (by have := hB2.size; simp; omega) _
      have hold : ∀ j, j < wr.heap.size → w3.heap[j]? = wr.heap[j]? := fun j hj => by
        rw [hw3, heap_alloc_old _ _ (by simp; omega), heap_setCell_other _ _ _ _ (by simp; omega), b2.block j (by simp; omega), heap_alloc_old _ _ hj]
      have hnew : ∀ j, wr.heap.size + 1 ≤ j → j < w2.heap.size → w3.heap[j]? = w2.heap[j]? := fun j hj hl => by
        rw [hw3, heap_alloc_old _ _ (by simp; omega), heap_setCell_other _ _ _ _ (by simp; omega)]
      have hY : w3.heap[w2.heap.size]? = some (.cells #[.int .u8 x.op, .int .i64 x.n, .int .u8 x.side, .int .u8 x.sel.side, .int .u8 x.sel.zone, .int .u8 x.sel.kind, .slice ra x.args.length rc] 54 (0, 0)) := by
        rw [hw3]; have := heap_alloc_new (w2.setCell ⟨wr.heap.size, 6, none⟩ (.slice ra x.args.length rc)) (.cells #[.int .u8 x.op, .int .i64 x.n, .int .u8 x.side, .int .u8 x.sel.side, .int .u8 x.sel.zone, .int .u8 x.sel.kind, .slice ra x.args.length rc] 54); rwa [show (w2.setCell ⟨wr.heap.size, 6, none⟩ (.slice ra x.args.length rc)).heap.size = w2.heap.size by simp] at this
      obtain ⟨css, hrow⟩ := HR.out
      have hli : (xs.take i).length = i := by rw [List.length_take]; have := HN.out; omega
      have hrow3 := hrow.frame (w' := w3) (S' := From w.heap.size) (ExAt.frames (k + 1)) (fun j hj hl => ⟨hj, hold j hl⟩)
      have hblk : ∀ j, (Value.slice a i cc).ownBlock = some j → w.heap.size ≤ j ∧ j < wr.heap.size := fun j hj => ⟨hrow.blk j hj, (hrow.own.lt j hj).2⟩
      have hown3 : w3.ownsRow 0 54 7 (.slice a i cc) i css.flatten := by have := hrow3.own; rwa [hli] at this
      have hex : ExAt (k + 1) w3 (From (wr.heap.size + 1)) (exV x (.slice ra x.args.length rc)) x := ⟨_, rfl, hr2.frame (ExAt.frames k) fun j hj hl => ⟨by unfold From at hj ⊢; simpa using hj, hnew j (by unfold From at hj; simpa using hj) hl⟩⟩
      have HB3 := Lib.hid hB3
      have HS3 := Lib.hid hs3
      have H3 := Lib.hid hrow3
      have HO := Lib.hid hown3
      have HE := Lib.hid hex
      have HBK := Lib.hid hblk
      have HY := Lib.hid hY
      have HW3 := Lib.hid hw3
      have HLI := Lib.hid hli
      have HZ2 : Hid (wr.heap.size + 1 ≤ w2.heap.size) := Lib.hid (by have := b2.size; simpa using this)
      have y0 := cell_blk (i := 0) h2; have y1 := cell_blk (i := 1) h2; have y2 := cell_blk (i := 2) h2; have y3 := cell_blk (i := 3) h2; have y4 := cell_blk (i := 4) h2; have y5 := cell_blk (i := 5) h2; have y6 := cell_blk (i := 6) h2; have yf0 := free_blk (i := 0) h2; have yf1 := free_blk (i := 1) h2; have yf2 := free_blk (i := 2) h2; have yf3 := free_blk (i := 3) h2; have yf4 := free_blk (i := 4) h2; have yf5 := free_blk (i := 5) h2; have yf6 := free_blk (i := 6) h2; simp at y0 y1 y2 y3 y4 y5 y6
      clear h2 hB2 hs3 hB3 hold hnew hY hrow hli hrow3 hblk hown3 hex hr2 b2 hw3
      go_wp2_with (at_builtin; rw [← HW3.out]; (refine wpList_append_lies _ rfl (.tmp 20) (.tmp 22) 39 rfl 0 54 i0 _ 7 48 Try.underlying39 hi0 hz0 hz1 hz2 rfl (by omega) _ i css.flatten rfl HO.out ⟨w2.heap.size, 0, none⟩ 1 1 (exV x (.slice ra x.args.length rc)) rfl rfl (World.news_of_block (cs := (exV x (.slice ra x.args.length rc)).toArray) (t := 54) (fr := (0, 0)) HY.out) (by simp [exV, stV, efV, cdV, slV, Value.oneCell']) (by omega) (by unfold maxLen; omega) (by omega) (Nat.zero_le _) _ rfl ?_; intro g4 cap w4 hown4 hgrow4 hat4 hlt4; have hgr4 : World.grownBy _ w4 (Value.slice a i cc).ownBlock := hgrow4))
      have hsn := RowOf.snoc (ExAt.frames (k + 1)) (w := w3) (w' := w4) (S := From w.heap.size) (Sx := From (wr.heap.size + 1)) (x := x) (c := exV x (.slice ra x.args.length rc)) (H := w3.heap.size) (b := 0) (g := g4) (cap := cap)
        H3.out rfl (by simp [exV, Value.oneCell']) HE.out (fun j hj _ => ⟨by have := HB.out.size; unfold From at *; omega, fun e => by have := (HBK.out j e).2; unfold From at hj; omega⟩) rfl (by have := HB3.out.size; unfold From; omega) (by rw [HLI.out]; exact hown4) hgr4 hat4
      rw [HLI.out, ← take_next HXI.out] at hsn
      have hB4 : Below w.heap.size w w4 := HB3.out.grown hgr4 HB3.out.size (fun j hj => (HBK.out j hj).1)
      refine ⟨⟨i + 1, _, cap, by go_num, by omega, rfl, ⟨_, hsn⟩, hB4⟩, ?_⟩
      simp [RowKit.intOf]; omega
    · obtain rfl : i = N := by omega
      have ht : xs.take i = xs := List.take_of_length_le (by have := HN.out; omega)
      have hR := HR.out
      rw [ht] at hR
      have HR2 := Lib.hid hR
      clear ht hR
      go_wp2
      go_ret
      exact ⟨a, cc, congrArg (fun n => Ending.returned (.slice a n cc)) HN.out, by rw [← HN.out]; exact HR2.out, HB.out⟩
theorem exprs_copy : ∀ (d : Nat) (w : World) (v : Value) (xs : List Ex), RowIn w 7 48 (ExIn 1 d) v xs → Calls Try.prog 31 #[v] w (CopyEnds 54 7 (ExAt d) xs w)
  | 0, w, v, xs, h => exprs_by_copy 0 (fun k e => by cases e) w v xs h
  | d + 1, w, v, xs, h => exprs_by_copy (d + 1) (fun k e => by cases e; exact exprs_copy d) w v xs h
end Go.Proofs.Ytomhlgamdmcneaa
