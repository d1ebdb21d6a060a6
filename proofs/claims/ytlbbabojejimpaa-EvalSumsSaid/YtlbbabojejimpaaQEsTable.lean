import Derived.Test.YtlbbabojejimpaaQEsA
/- The table that the document tells of. -/
namespace Go.Proofs.Ytlbbabojejimpaa
open Go.RowKit Go.Lib

set_option maxHeartbeats 1000000 in
set_option maxRecDepth 100000 in
theorem attack_zero (t : Tb) (i : Int) (w : World) (h : t.tn < 1) : Calls Try.prog 26 #[.agg t.row, .int .i64 i] w fun e w' => e = .returned (.int .i64 0) ∧ Below w.heap.size w w' := by
  have hmay := Lib.hid fun (W : World) => bmay_zero t W h
  have hb0 : Below w.heap.size w ((w.alloc (.cells t.row 28)).alloc (.cells #[.int .i64 i] 3)) := ((Below.refl _ _).alloc (Nat.le_refl _) _).alloc (by simp) _
  have HB0 := Lib.hid hb0
  clear hb0
  simp only [Tb.row] at *
  go_enter Try.func26, Try.ntmps26
  go_wp2_with fail
  refine (hmay.out _).mono ?_
  rintro e w1 ⟨rfl, b1⟩
  have B1 := Lib.hid (HB0.out.trans (b1.mono HB0.out.size))
  clear b1
  go_wp2_with fail
  go_ret
  exact ⟨rfl, B1.out⟩

def lordE : Ef := ⟨6, 0, 0, [], 0, 0, false, 0, ⟨0, 0, 0⟩, [⟨7, 0, .mk 0 300 0 ⟨0, 0, 0⟩ [], true, ⟨0, 2, 1⟩⟩]⟩
def twoX : List Cd := [⟨⟨#[108, 111, 114, 100]⟩, 0, 4, 1000, 0, [lordE]⟩, ⟨⟨#[112, 97, 119, 110]⟩, 0, 1, 500, 0, []⟩]
def threeP : List Pc := [⟨0, 1000, 0, 0, 0, 2, 0, true, false, 0, 0, false, false, 0⟩, ⟨1, 500, 0, 0, 0, 2, 1, false, true, 0, 0, false, false, 0⟩, ⟨1, 500, 0, 1, 1, 2, 0, true, false, 0, 0, false, false, 0⟩]

/-- A row out of one block. -/
theorem row_of_block {α : Type} {w : World} {size B : Nat} {P : World → List Value → α → Prop} {ty : TypeId} {b cap : Nat} {css : List (List Value)} {xs : List α} (hb : w.heap[b]? = some (.cells css.flatten.toArray ty (0, 0)))
    (hl : xs.length = css.length) (hs : ∀ c ∈ css, c.length = size) (hp : ∀ (i : Nat) (c : List Value) (x : α), css[i]? = some c → xs[i]? = some x → P w c x) (h1 : xs.length ≤ maxLen) (h2 : xs.length * B ≤ 140737488351232) : RowIn w size B P (.slice (some ⟨b, 0, none⟩) xs.length cap) xs := by
  refine ⟨_, _, rfl, h1, h2, fun i x hx => ?_⟩
  obtain ⟨c, hc⟩ : ∃ c, css[i]? = some c := ⟨css[i]'(by have := (List.getElem?_eq_some_iff.1 hx).1; omega), List.getElem?_eq_getElem _⟩
  have hcs := hs c (List.mem_of_getElem? hc)
  refine ⟨b, 0, rfl, c, hcs, hp i c x hc hx, fun j u hu => ?_⟩
  rw [cell_blk hb, Nat.zero_add, List.getElem?_toArray, flat_get css hs i j c hc (by rw [← hcs]; exact (List.getElem?_eq_some_iff.1 hu).1)]
  exact hu

set_option maxHeartbeats 4000000 in
set_option maxRecDepth 100000 in
theorem table_any (w : World) : Calls Try.prog 17 #[] w fun e w' => (∃ t : Tb, e = .returned (.agg t.row) ∧ TabIn w' t twoX threeP ∧ LifeOk t) ∧ Below w.heap.size w w' := by
  go_enter Try.func17, Try.ntmps17
  go_wp2_with fail
  obtain ⟨W, hW⟩ : ∃ W, W = (((((((((w.alloc (.cells #[.slice (some ⟨w.heap.size + 1 + 1 + 1 + 1 + 1 + 1, 0, none⟩) 2 2, .slice (some ⟨w.heap.size + 1 + 1 + 1 + 1 + 1 + 1 + 1 + 1, 0, none⟩) 3 3, .int .i64 0, .int .i64 0, .int .i64 1, .int .u8 0, .int .i64 0, .slice none 0 0, .bool false, .bool false] 28)).alloc (.cells #[.int .u8 7, .int .u8 0, .int .u8 0, .int .i64 300, .int .u8 0, .int .u8 0, .int .u8 0, .int .u8 0, .slice none 0 0, .bool true, .int .u8 0, .int .u8 2, .int .u8 1] 70)).alloc (.cells #[.int .u8 7, .int .u8 0, .int .u8 0, .int .i64 300, .int .u8 0, .int .u8 0, .int .u8 0, .int .u8 0, .slice none 0 0, .bool true, .int .u8 0, .int .u8 2, .int .u8 1] 70)).alloc (.cells #[.int .u8 6, .int .u8 0, .int .u8 0, .slice none 0 0, .int .i64 0, .int .i64 0, .bool false, .int .i64 0, .int .u8 0, .int .u8 0, .int .u8 0, .slice (some ⟨w.heap.size + 1 + 1, 0, none⟩) 1 1] 48)).alloc (.cells #[.string ⟨#[108, 111, 114, 100]⟩, .int .u8 0, .int .i64 4, .int .i64 1000, .int .i64 0, .slice (some ⟨w.heap.size + 1 + 1 + 1, 0, none⟩) 1 1] 45)).alloc (.cells #[.string ⟨#[112, 97, 119, 110]⟩, .int .u8 0, .int .i64 1, .int .i64 500, .int .i64 0, .slice none 0 0] 45)).alloc (.cells #[.string ⟨#[108, 111, 114, 100]⟩, .int .u8 0, .int .i64 4, .int .i64 1000, .int .i64 0, .slice (some ⟨w.heap.size + 1 + 1 + 1, 0, none⟩) 1 1, .string ⟨#[112, 97, 119, 110]⟩, .int .u8 0, .int .i64 1, .int .i64 500, .int .i64 0, .slice none 0 0] 45)).alloc (.cells #[.slice (some ⟨w.heap.size + 1 + 1 + 1 + 1 + 1 + 1, 0, none⟩) 2 2, .slice (some ⟨w.heap.size + 1 + 1 + 1 + 1 + 1 + 1 + 1 + 1, 0, none⟩) 3 3, .int .i64 0, .int .i64 0, .int .i64 1, .int .u8 0, .int .i64 0, .slice none 0 0, .bool false, .bool false] 28)).alloc (.cells #[.int .i64 0, .int .i64 1000, .int .i64 0, .int .u8 0, .int .u8 0, .int .u8 2, .int .i64 0, .bool true, .bool false, .int .i64 0, .int .u8 0, .bool false, .bool false, .int .i64 0, .int .i64 1, .int .i64 500, .int .i64 0, .int .u8 0, .int .u8 0, .int .u8 2, .int .i64 1, .bool false, .bool true, .int .i64 0, .int .u8 0, .bool false, .bool false, .int .i64 0, .int .i64 1, .int .i64 500, .int .i64 0, .int .u8 1, .int .u8 1, .int .u8 2, .int .i64 0, .bool true, .bool false, .int .i64 0, .int .u8 0, .bool false, .bool false, .int .i64 0] 51)) := ⟨_, rfl⟩
  rw [← hW]
  have hb : Below w.heap.size w W := by rw [hW]; exact (((((((((Below.refl _ w).alloc (by simp; try omega) _).alloc (by simp; try omega) _).alloc (by simp; try omega) _).alloc (by simp; try omega) _).alloc (by simp; try omega) _).alloc (by simp; try omega) _).alloc (by simp; try omega) _).alloc (by simp; try omega) _).alloc (by simp; try omega) _
  have h0 : W.heap[w.heap.size]? = some (.cells #[.slice (some ⟨w.heap.size + 1 + 1 + 1 + 1 + 1 + 1, 0, none⟩) 2 2, .slice (some ⟨w.heap.size + 1 + 1 + 1 + 1 + 1 + 1 + 1 + 1, 0, none⟩) 3 3, .int .i64 0, .int .i64 0, .int .i64 1, .int .u8 0, .int .i64 0, .slice none 0 0, .bool false, .bool false] 28 (0, 0)) := by rw [hW]; exact heap_older (heap_older (heap_older (heap_older (heap_older (heap_older (heap_older (heap_older (heap_newer _ _ _ (by simp)))))))))
  have h2 : W.heap[w.heap.size + 1 + 1]? = some (.cells #[.int .u8 7, .int .u8 0, .int .u8 0, .int .i64 300, .int .u8 0, .int .u8 0, .int .u8 0, .int .u8 0, .slice none 0 0, .bool true, .int .u8 0, .int .u8 2, .int .u8 1] 70 (0, 0)) := by rw [hW]; exact heap_older (heap_older (heap_older (heap_older (heap_older (heap_older (heap_newer _ _ _ (by simp)))))))
  have h3 : W.heap[w.heap.size + 1 + 1 + 1]? = some (.cells #[.int .u8 6, .int .u8 0, .int .u8 0, .slice none 0 0, .int .i64 0, .int .i64 0, .bool false, .int .i64 0, .int .u8 0, .int .u8 0, .int .u8 0, .slice (some ⟨w.heap.size + 1 + 1, 0, none⟩) 1 1] 48 (0, 0)) := by rw [hW]; exact heap_older (heap_older (heap_older (heap_older (heap_older (heap_newer _ _ _ (by simp))))))
  have h6 : W.heap[w.heap.size + 1 + 1 + 1 + 1 + 1 + 1]? = some (.cells #[.string ⟨#[108, 111, 114, 100]⟩, .int .u8 0, .int .i64 4, .int .i64 1000, .int .i64 0, .slice (some ⟨w.heap.size + 1 + 1 + 1, 0, none⟩) 1 1, .string ⟨#[112, 97, 119, 110]⟩, .int .u8 0, .int .i64 1, .int .i64 500, .int .i64 0, .slice none 0 0] 45 (0, 0)) := by rw [hW]; exact heap_older (heap_older (heap_newer _ _ _ (by simp)))
  have h8 : W.heap[w.heap.size + 1 + 1 + 1 + 1 + 1 + 1 + 1 + 1]? = some (.cells #[.int .i64 0, .int .i64 1000, .int .i64 0, .int .u8 0, .int .u8 0, .int .u8 2, .int .i64 0, .bool true, .bool false, .int .i64 0, .int .u8 0, .bool false, .bool false, .int .i64 0, .int .i64 1, .int .i64 500, .int .i64 0, .int .u8 0, .int .u8 0, .int .u8 2, .int .i64 1, .bool false, .bool true, .int .i64 0, .int .u8 0, .bool false, .bool false, .int .i64 0, .int .i64 1, .int .i64 500, .int .i64 0, .int .u8 1, .int .u8 1, .int .u8 2, .int .i64 0, .bool true, .bool false, .int .i64 0, .int .u8 0, .bool false, .bool false, .int .i64 0] 51 (0, 0)) := by rw [hW]; exact heap_newer _ _ _ (by simp)
  clear hW
  refine bodyPost_ret (results_cell_row rfl _ _ w.heap.size _ _ _ _ rfl h0 rfl rfl (by kernel_rfl)) rfl ?_
  refine ⟨⟨⟨some ⟨w.heap.size + 1 + 1 + 1 + 1 + 1 + 1, 0, none⟩, 2, 2, some ⟨w.heap.size + 1 + 1 + 1 + 1 + 1 + 1 + 1 + 1, 0, none⟩, 3, 3, 0, 0, 1, 0, 0, none, 0, 0, false, false⟩, rfl, ⟨⟨1, ?_⟩, ?_, by decide⟩, ⟨by dsimp only; omega, by dsimp only; omega, by dsimp only; omega, by dsimp only; omega⟩⟩, hb⟩
  · refine row_of_block (xs := twoX) (css := [[.string ⟨#[108, 111, 114, 100]⟩, .int .u8 0, .int .i64 4, .int .i64 1000, .int .i64 0, .slice (some ⟨w.heap.size + 1 + 1 + 1, 0, none⟩) 1 1], [.string ⟨#[112, 97, 119, 110]⟩, .int .u8 0, .int .i64 1, .int .i64 500, .int .i64 0, .slice none 0 0]]) h6 rfl (by simp) (fun i c x hc hx => ?_) (by decide) (by decide)
    match i, hc, hx with
    | 0, hc, hx =>
      simp at hc; subst hc
      simp [twoX] at hx; subst hx
      refine ⟨_, rfl, by decide, ?_⟩
      refine row_of_block (xs := [lordE]) (css := [[.int .u8 6, .int .u8 0, .int .u8 0, .slice none 0 0, .int .i64 0, .int .i64 0, .bool false, .int .i64 0, .int .u8 0, .int .u8 0, .int .u8 0, .slice (some ⟨w.heap.size + 1 + 1, 0, none⟩) 1 1]]) h3 rfl (by simp) (fun i c x hc hx => ?_) (by decide) (by decide)
      match i, hc, hx with
      | 0, hc, hx =>
        simp at hc; subst hc
        simp at hx; subst hx
        refine ⟨_, _, rfl, RowIn.nil _ _ _ _ _ _, ?_⟩
        refine row_of_block (xs := lordE.steps) (B := 64 * 0) (css := [[.int .u8 7, .int .u8 0, .int .u8 0, .int .i64 300, .int .u8 0, .int .u8 0, .int .u8 0, .int .u8 0, .slice none 0 0, .bool true, .int .u8 0, .int .u8 2, .int .u8 1]]) h2 rfl (by simp) (fun i c x hc hx => ?_) (by decide) (by decide)
        match i, hc, hx with
        | 0, hc, hx =>
          simp at hc; subst hc
          simp [lordE] at hx; subst hx
          exact ⟨_, rfl, _, rfl, RowIn.nil _ _ _ _ _ _⟩
        | i + 1, hc, hx => simp at hc
      | i + 1, hc, hx => simp at hc
    | 1, hc, hx =>
      simp at hc; subst hc
      simp [twoX] at hx; subst hx
      exact ⟨_, rfl, by decide, RowIn.nil _ _ _ _ _ _⟩
    | i + 2, hc, hx => simp at hc
  · refine row_of_block (xs := threeP) (css := [[.int .i64 0, .int .i64 1000, .int .i64 0, .int .u8 0, .int .u8 0, .int .u8 2, .int .i64 0, .bool true, .bool false, .int .i64 0, .int .u8 0, .bool false, .bool false, .int .i64 0], [.int .i64 1, .int .i64 500, .int .i64 0, .int .u8 0, .int .u8 0, .int .u8 2, .int .i64 1, .bool false, .bool true, .int .i64 0, .int .u8 0, .bool false, .bool false, .int .i64 0], [.int .i64 1, .int .i64 500, .int .i64 0, .int .u8 1, .int .u8 1, .int .u8 2, .int .i64 0, .bool true, .bool false, .int .i64 0, .int .u8 0, .bool false, .bool false, .int .i64 0]]) h8 rfl (by simp) (fun i c x hc hx => ?_) (by decide) (by decide)
    match i, hc, hx with
    | 0, hc, hx => simp at hc; subst hc; simp [threeP] at hx; subst hx; rfl
    | 1, hc, hx => simp at hc; subst hc; simp [threeP] at hx; subst hx; rfl
    | 2, hc, hx => simp at hc; subst hc; simp [threeP] at hx; subst hx; rfl
    | i + 3, hc, hx => simp at hc
end Go.Proofs.Ytlbbabojejimpaa
