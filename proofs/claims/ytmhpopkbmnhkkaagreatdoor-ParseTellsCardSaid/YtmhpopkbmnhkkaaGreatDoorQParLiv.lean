import Derived.Test.YtmhpopkbmnhkkaaGreatDoorQParWhole
import Derived.Test.YtmhpopkbmnhkkaaGreatDoorQParSam3
/- joustlaw02.lives: the document's examples come out. -/
namespace Go.Proofs.YtmhpopkbmnhkkaaGreatDoor
open Go.RowKit Go.Lib

def sum1 : List Ex := [.mk 0 1 0 .zero [], .mk 3 0 0 .zero []]
def exs1 : List Ex := [.mk 0 3 0 .zero [], .mk 1 0 0 .zero [], .mk 4 0 0 .zero sum1]
theorem pex1 : exprsOf ⟨#[51, 32, 108, 105, 102, 101, 32, 109, 105, 110, 101, 32, 40, 43, 32, 49, 32, 112, 111, 119, 101, 114, 41]⟩ = (exs1, 0, 0, 0) := by kernel_rfl
theorem pex2 : exprsOf ⟨#[40, 110, 111, 116, 41]⟩ = ([], 5, 1, 5) := by kernel_rfl
theorem pex3 : exprsOf ⟨#[40, 41]⟩ = ([], 5, 1, 2) := by kernel_rfl
def exs4 : List Ex := [.mk 2 0 0 ⟨0, 2, 1⟩ []]
theorem pex4 : exprsOf ⟨#[99, 111, 117, 110, 116, 32, 109, 105, 110, 101, 32, 114, 111, 119, 32, 117, 110, 105, 116]⟩ = (exs4, 0, 0, 0) := by kernel_rfl
def cds5 : List Cd := [⟨⟨#[111, 103, 114, 101]⟩, 0, 4, 1800, 0, []⟩]
theorem pex5 : poolOf ⟨#[117, 110, 105, 116, 32, 111, 103, 114, 101, 32, 52, 32, 49, 56, 48, 48, 32, 48, 32, 123, 32, 125]⟩ = (cds5, 0, 0, 0) := by kernel_rfl
def sts6 : List St := [⟨2, 1, .mk 0 500 0 .zero [], false, .zero⟩]
def efs6 : List Ef := [⟨0, 0, 0, [], 0, 0, false, 0, .zero, sts6⟩]
def cds6 : List Cd := [⟨⟨#[114, 97, 105, 110]⟩, 1, 0, 0, 0, efs6⟩]
theorem pex6 : poolOf ⟨#[115, 112, 101, 108, 108, 32, 114, 97, 105, 110, 32, 123, 32, 112, 108, 97, 121, 58, 32, 100, 97, 109, 97, 103, 101, 32, 116, 104, 101, 105, 114, 115, 32, 53, 48, 48, 59, 32, 125]⟩ = (cds6, 0, 0, 0) := by kernel_rfl
theorem pex7 : poolOf ⟨#[117, 110, 105, 116, 32, 51]⟩ = ([], 5, 1, 6) := by kernel_rfl

def ExAns {α : Type} (ty : TypeId) (size : Nat) (P : World → (Nat → Prop) → List Value → α → Prop) (xs : List α) (n : Nat) (x l y : Int) (w : World) (e : Ending) (w' : World) : Prop := ∃ (a : Option Addr) (c : Nat),
  e = .returned (.tuple #[.slice a n c, .agg #[.int .i64 x, .int .i64 l, .int .i64 y]]) ∧ RowAt w' (From w.heap.size) ty size P (.slice a n c) xs ∧ Below w.heap.size w w'
theorem exprs_ex (s : ByteArray) (xs : List Ex) (n : Nat) (x l y : Int) (h : exprsOf s = (xs, x, l, y)) (hn : xs.length = n) (hs : s.size ≤ maxLen) (w : World) (hT : PTabs w) : Calls Tryz.prog 10 #[.string s] w (ExAns 46 7 (ExAt 5) xs n x l y w) :=
  (exprs_reads s w hs hT).mono fun e w' ⟨a, n', c, x', l', y', he, hr, hf, hb⟩ => by
    rw [h] at hr hf
    simp only [Prod.mk.injEq] at hf
    obtain ⟨rfl, rfl, rfl⟩ := hf
    obtain ⟨a', c', hv⟩ := hr.form
    cases hv
    subst hn
    exact ⟨a, c, he, hr, hb⟩
theorem pool_ex (s : ByteArray) (xs : List Cd) (n : Nat) (x l y : Int) (h : poolOf s = (xs, x, l, y)) (hn : xs.length = n) (hs : s.size ≤ maxLen) (w : World) (hT : PTabs w) : Calls Tryz.prog 8 #[.string s] w (ExAns 38 6 CdAt xs n x l y w) :=
  (pool_reads s w hs hT).mono fun e w' ⟨a, n', c, x', l', y', he, hr, hf, hb⟩ => by
    rw [h] at hr hf
    simp only [Prod.mk.injEq] at hf
    obtain ⟨rfl, rfl, rfl⟩ := hf
    obtain ⟨a', c', hv⟩ := hr.form
    cases hv
    subst hn
    exact ⟨a, c, he, hr, hb⟩

set_option maxRecDepth 100000 in
theorem at_any (x c : Int) (w : World) : Calls Tryz.prog 26 #[.int .i64 x, .int .i64 c] w fun e w' => e = .returned (.agg #[.int .i64 x, .int .i64 1, .int .i64 c]) ∧ Below w.heap.size w w' := by
  go_enter Tryz.func26, Tryz.ntmps26
  go_wp2
  refine bodyPost_ret (v := .agg #[.int .i64 x, .int .i64 1, .int .i64 c]) (by simp [results, Tryz.results26, go_sem]) rfl ?_
  exact ⟨rfl, (by repeat (first | (with_reducible exact Below.refl _ _) | (with_reducible assumption) | ((with_reducible refine Below.setCell ?_ ?_ _); rotate_left; focus (simp; done)) | ((with_reducible refine Below.alloc ?_ ?_ _); rotate_left; focus (simp; done)) | (with_reducible refine Below.drew ?_)))⟩

/-- A slice that is written out. -/
theorem lit_row {α : Type} {P : World → (Nat → Prop) → List Value → α → Prop} {w : World} {S : Nat → Prop} {ty : TypeId} {size b n : Nat} (css : List (List Value)) {xs : List α} {cs : Array Value} (hb : w.heap[b]? = some (.cells cs ty (0, 0))) (hcs : cs = css.flatten.toArray) (hS : S b) (hn : xs.length = n) (hc : css.flatten.length = n * size) (hm : n ≤ 1000)
    (ha : Each (OneOf w S size P (.slice (some ⟨b, 0, none⟩) n n)) css xs) : RowAt w S ty size P (.slice (some ⟨b, 0, none⟩) n n) xs := by
  subst hn hcs
  refine ⟨css, ⟨hc, .inr ⟨b, _, _, rfl, Nat.zero_le _, hb, Nat.le_refl _, by unfold maxLen; omega, by simpa using hc, ?_⟩⟩, fun g hg => by simp [Value.ownBlock] at hg; rw [← hg]; exact hS, ha⟩
  simp only [List.toList_toArray]
  rw [List.take_of_length_le (by omega)]
theorem one_leaf {w : World} {S : Nat → Prop} {k : Nat} {v : Value} (o : Nat) (n : Int) (sd : Nat) (x : Sl) : OneOf w S 7 (ExAt k) v (exV (.mk o n sd x []) (.slice none 0 0)) (.mk o n sd x []) := ⟨rfl, by simp [exV, Value.oneCell'], ExAt.at_leaf _ _ _ _ _ _ _⟩

/-- The expressions that lives writes out. -/
theorem liv_lit (W : World) (A b : Nat) (hA : W.heap[A]? = some (.cells #[.int .u8 0, .int .i64 1, .int .u8 0, .int .u8 0, .int .u8 0, .int .u8 0, .slice none 0 0, .int .u8 3, .int .i64 0, .int .u8 0, .int .u8 0, .int .u8 0, .int .u8 0, .slice none 0 0] 46 (0, 0)))
    (hb : W.heap[b]? = some (.cells #[.int .u8 0, .int .i64 3, .int .u8 0, .int .u8 0, .int .u8 0, .int .u8 0, .slice none 0 0, .int .u8 1, .int .i64 0, .int .u8 0, .int .u8 0, .int .u8 0, .int .u8 0, .slice none 0 0,
      .int .u8 4, .int .i64 0, .int .u8 0, .int .u8 0, .int .u8 0, .int .u8 0, .slice (some ⟨A, 0, none⟩) 2 2] 46 (0, 0))) (hne : A ≠ b) : RowAt W (fun _ => True) 46 7 (ExAt 5) (.slice (some ⟨b, 0, none⟩) 3 3) exs1 := by
  refine lit_row [exV (.mk 0 3 0 .zero []) (.slice none 0 0), exV (.mk 1 0 0 .zero []) (.slice none 0 0), exV (.mk 4 0 0 .zero sum1) (.slice (some ⟨A, 0, none⟩) 2 2)] hb rfl trivial rfl rfl (by omega) (.cons (one_leaf _ _ _ _) (.cons (one_leaf _ _ _ _) (.cons ⟨rfl, by simp [exV, Value.oneCell'], _, rfl, ?_⟩ .nil)))
  exact lit_row [exV (.mk 0 1 0 .zero []) (.slice none 0 0), exV (.mk 3 0 0 .zero []) (.slice none 0 0)] hA rfl ⟨trivial, by simp [Value.ownBlock]; exact fun e => hne e.symm⟩ rfl rfl (by omega) (.cons (one_leaf _ _ _ _) (.cons (one_leaf _ _ _ _) .nil))
theorem PTabs.alloc {w : World} (h : PTabs w) (o : Obj) : PTabs (w.alloc o) := h.below ((Below.refl _ _).alloc (Nat.le_refl _) _)

theorem row_new {W : World} {k : Nat} {v : Value} {xs : List Ex} (h : RowAt W (fun _ => True) 46 7 (ExAt k) v xs) (o : Obj) : RowAt (W.alloc o).drew (fun _ => True) 46 7 (ExAt k) v xs :=
  h.frame (w' := (W.alloc o).drew) (S' := fun _ => True) (ExAt.frames k) fun i _ hl => ⟨trivial, by
    show (W.alloc o).heap[i]? = W.heap[i]?
    exact Below.heap_alloc _ _ _ hl⟩

/-- The cards that lives writes out. -/
theorem ogre_lit (w : World) (b : Nat) (hb : w.heap[b]? = some (.cells #[.string ⟨#[111, 103, 114, 101]⟩, .int .u8 0, .int .i64 4, .int .i64 1800, .int .i64 0, .slice none 0 0] 38 (0, 0))) : RowAt w (fun _ => True) 38 6 CdAt (.slice (some ⟨b, 0, none⟩) 1 1) cds5 := by
  refine lit_row [cdV ⟨⟨#[111, 103, 114, 101]⟩, 0, 4, 1800, 0, []⟩ (.slice none 0 0)] hb rfl trivial rfl rfl (by omega) (.cons ⟨rfl, by simp [cdV, Value.oneCell'], _, rfl, RowAt.nil _ _ _ _ _⟩ .nil)
theorem rain_lit (w : World) (s e r : Nat) (hs : w.heap[s]? = some (.cells #[.int .u8 2, .int .u8 1, .int .u8 0, .int .i64 500, .int .u8 0, .int .u8 0, .int .u8 0, .int .u8 0, .slice none 0 0, .bool false, .int .u8 0, .int .u8 0, .int .u8 0] 58 (0, 0)))
    (he : w.heap[e]? = some (.cells #[.int .u8 0, .int .u8 0, .int .u8 0, .slice none 0 0, .int .i64 0, .int .i64 0, .bool false, .int .i64 0, .int .u8 0, .int .u8 0, .int .u8 0, .slice (some ⟨s, 0, none⟩) 1 1] 43 (0, 0)))
    (hr : w.heap[r]? = some (.cells #[.string ⟨#[114, 97, 105, 110]⟩, .int .u8 1, .int .i64 0, .int .i64 0, .int .i64 0, .slice (some ⟨e, 0, none⟩) 1 1] 38 (0, 0))) (h1 : s < e) (h2 : e < r) : RowAt w (fun _ => True) 38 6 CdAt (.slice (some ⟨r, 0, none⟩) 1 1) cds6 := by
  refine lit_row [cdV ⟨⟨#[114, 97, 105, 110]⟩, 1, 0, 0, 0, efs6⟩ (.slice (some ⟨e, 0, none⟩) 1 1)] hr rfl trivial rfl rfl (by omega) (.cons ⟨rfl, by simp [cdV, Value.oneCell'], _, rfl, ?_⟩ .nil)
  refine lit_row [efV ⟨0, 0, 0, [], 0, 0, false, 0, .zero, sts6⟩ (.slice none 0 0) (.slice (some ⟨s, 0, none⟩) 1 1)] he rfl ⟨trivial, by simp [Value.ownBlock]; omega⟩ rfl rfl (by omega) (.cons ⟨rfl, by simp [efV, Value.oneCell'], _, _, rfl, RowAt.nil _ _ _ _ _, ?_⟩ .nil)
  exact lit_row [stV ⟨2, 1, .mk 0 500 0 .zero [], false, .zero⟩ (exV (.mk 0 500 0 .zero []) (.slice none 0 0))] hs rfl ⟨⟨trivial, by simp [Value.ownBlock]; omega⟩, by simp [Value.ownBlock]; omega⟩ rfl rfl (by omega) (.cons ⟨rfl, by simp [stV, exV, slV, Value.oneCell'], _, rfl, ExAt.at_leaf _ _ _ _ _ _ _⟩ .nil)
theorem row_later {α : Type} {P : World → (Nat → Prop) → List Value → α → Prop} (hP : Frames P) {ty : TypeId} {size : Nat} {W W' : World} {S : Nat → Prop} {v : Value} {xs : List α} (h : RowAt W S ty size P v xs) (hb : Below W.heap.size W W') : RowAt W' (fun _ => True) ty size P v xs :=
  h.frame (w' := W') (S' := fun _ => True) hP fun i _ hl => ⟨trivial, hb.block i hl⟩

set_option maxHeartbeats 4000000 in
set_option maxRecDepth 100000 in
theorem plives_any (w : World) (hT : PTabs w) : Calls Tryz.prog 7 #[] w fun e w' => e = .returned (.bool true) ∧ Below w.heap.size w w' := by
  go_enter Tryz.func7, Tryz.ntmps7
  go_wp2_with fail
  refine (exprs_ex _ _ 3 _ _ _ pex1 rfl (by decide) w hT).mono ?_
  rintro e w1 ⟨a1, c1, rfl, h1, b1⟩
  have T1 := Lib.hid ((hT.below b1).alloc (.cells #[.int .i64 0, .int .i64 0, .int .i64 0] 28))
  have K1 := Lib.hid (later_alloc b1 (.cells #[.int .i64 0, .int .i64 0, .int .i64 0] 28))
  have H1 := Lib.hid h1
  clear h1 b1 hT
  go_wp2_with fail
  refine (exprs_ex _ _ 0 _ _ _ pex2 rfl (by decide) _ T1.out).mono ?_
  rintro e w2 ⟨a2, c2, rfl, h2, b2⟩
  have T2 := Lib.hid ((T1.out.below b2).alloc (.cells #[.int .i64 5, .int .i64 1, .int .i64 5] 28))
  have K2 := Lib.hid (later_alloc b2 (.cells #[.int .i64 5, .int .i64 1, .int .i64 5] 28))
  clear h2 b2
  go_wp2_with fail
  refine (exprs_ex _ _ 0 _ _ _ pex3 rfl (by decide) _ T2.out).mono ?_
  rintro e w3 ⟨a3, c3, rfl, h3, b3⟩
  have T3 := Lib.hid ((T2.out.below b3).alloc (.cells #[.int .i64 5, .int .i64 1, .int .i64 2] 28))
  have K3 := Lib.hid (later_alloc b3 (.cells #[.int .i64 5, .int .i64 1, .int .i64 2] 28))
  clear h3 b3
  go_wp2_with fail
  refine (exprs_ex _ _ 1 _ _ _ pex4 rfl (by decide) _ T3.out).mono ?_
  rintro e w4 ⟨a4, c4, rfl, h4, b4⟩
  rcases h4.open with ⟨_, hno⟩ | ⟨g, cp, hv, -, -, -, hg4, -, hcells⟩
  · exact absurd hno (by simp [exs4])
  cases hv
  obtain ⟨cc, -, hp, hcell⟩ := hcells 0 _ rfl
  obtain ⟨va, vn, vc, rfl⟩ := hp.slices
  have x5 := hcell 5 _ (by omega) rfl
  have b4' : Below w3.heap.size (w3.alloc (.cells #[.int .i64 5, .int .i64 1, .int .i64 2] 28)) w4 := b4.mono (by simp)
  have T4 := Lib.hid ((T3.out.below b4).alloc (.cells #[.int .i64 0, .int .i64 0, .int .i64 0] 28))
  have K4 := Lib.hid (later_alloc b4 (.cells #[.int .i64 0, .int .i64 0, .int .i64 0] 28))
  clear h4 b4 hcells hp hcell
  go_wp2_with fail
  obtain ⟨W, hW⟩ : ∃ W, W = ((w4.alloc (.cells #[.int .i64 0, .int .i64 0, .int .i64 0] 28)).alloc (.cells #[.int .u8 0, .int .i64 1, .int .u8 0, .int .u8 0, .int .u8 0, .int .u8 0, .slice none 0 0, .int .u8 3, .int .i64 0, .int .u8 0, .int .u8 0, .int .u8 0, .int .u8 0, .slice none 0 0] 46)).alloc (.cells #[.int .u8 4, .int .i64 0, .int .u8 0, .int .u8 0, .int .u8 0, .int .u8 0, .slice (some ⟨w4.heap.size + 1, 0, none⟩) 2 2] 46) := ⟨_, rfl⟩
  have HW := Lib.hid hW
  clear hW
  rw [← HW.out]
  have k4 : Below (w4.alloc (.cells #[.int .i64 0, .int .i64 0, .int .i64 0] 28)).heap.size (w4.alloc (.cells #[.int .i64 0, .int .i64 0, .int .i64 0] 28)) W := by rw [HW.out]; exact ((Below.refl _ _).alloc (Nat.le_refl _) _).alloc (by simp) _
  have k3 := later_trans K4.out k4
  have k2 := later_trans K3.out k3
  have k1 := later_trans K2.out k2
  have k0 := later_trans K1.out k1
  have F1 := (k1.block w1.heap.size (by simp)).trans (heap_alloc_new w1 (.cells #[.int .i64 0, .int .i64 0, .int .i64 0] 28))
  have F2 := (k2.block w2.heap.size (by simp)).trans (heap_alloc_new w2 (.cells #[.int .i64 5, .int .i64 1, .int .i64 5] 28))
  have F3 := (k3.block w3.heap.size (by simp)).trans (heap_alloc_new w3 (.cells #[.int .i64 5, .int .i64 1, .int .i64 2] 28))
  have F4 := (k4.block w4.heap.size (by simp)).trans (heap_alloc_new w4 (.cells #[.int .i64 0, .int .i64 0, .int .i64 0] 28))
  have FAr : W.heap[w4.heap.size + 1]? = some (.cells #[.int .u8 0, .int .i64 1, .int .u8 0, .int .u8 0, .int .u8 0, .int .u8 0, .slice none 0 0, .int .u8 3, .int .i64 0, .int .u8 0, .int .u8 0, .int .u8 0, .int .u8 0, .slice none 0 0] 46 (0, 0)) := by rw [HW.out]; exact heap_old (heap_new_at _ _ _ (by simp))
  have FSu : W.heap[w4.heap.size + 2]? = some (.cells #[.int .u8 4, .int .i64 0, .int .u8 0, .int .u8 0, .int .u8 0, .int .u8 0, .slice (some ⟨w4.heap.size + 1, 0, none⟩) 2 2] 46 (0, 0)) := by rw [HW.out]; exact heap_new_at _ _ _ (by simp)
  have KK : W.cell? ⟨g, 0 * 7 + 5, none⟩ = some (.int .u8 1) := by
    have := cell_later (later_alloc (Below.refl _ _) (.cells #[.int .i64 0, .int .i64 0, .int .i64 0] 28)) x5
    exact cell_later k4 this
  simp only [Nat.zero_mul, Nat.zero_add] at KK
  have ROW := Lib.hid (H1.out.frame (w' := W) (S' := fun _ => True) (ExAt.frames 5) fun i _ hl => ⟨trivial, (k1.block i (by simp; omega)).trans (Below.heap_alloc _ _ _ hl)⟩)
  have K0 := Lib.hid k0
  have TW := Lib.hid (T4.out.below k4)
  have s0 : W.cell? ⟨w1.heap.size, 0, none⟩ = some (.int .i64 0) := by rw [cell_blk F1]; rfl
  have s1 : W.cell? ⟨w2.heap.size, 0, none⟩ = some (.int .i64 5) := by rw [cell_blk F2]; rfl
  have s2 : W.cell? ⟨w2.heap.size, 1, none⟩ = some (.int .i64 1) := by rw [cell_blk F2]; rfl
  have s3 : W.cell? ⟨w2.heap.size, 2, none⟩ = some (.int .i64 5) := by rw [cell_blk F2]; rfl
  have s4 : W.cell? ⟨w3.heap.size, 0, none⟩ = some (.int .i64 5) := by rw [cell_blk F3]; rfl
  have s5 : W.cell? ⟨w3.heap.size, 1, none⟩ = some (.int .i64 1) := by rw [cell_blk F3]; rfl
  have s6 : W.cell? ⟨w3.heap.size, 2, none⟩ = some (.int .i64 2) := by rw [cell_blk F3]; rfl
  have s7 : W.cell? ⟨w4.heap.size, 0, none⟩ = some (.int .i64 0) := by rw [cell_blk F4]; rfl
  have s8 : W.cell? ⟨w4.heap.size + 2, 0, none⟩ = some (.int .u8 4) := by rw [cell_blk FSu]; rfl
  have s9 : W.cell? ⟨w4.heap.size + 2, 1, none⟩ = some (.int .i64 0) := by rw [cell_blk FSu]; rfl
  have s10 : W.cell? ⟨w4.heap.size + 2, 2, none⟩ = some (.int .u8 0) := by rw [cell_blk FSu]; rfl
  have s11 : W.cell? ⟨w4.heap.size + 2, 3, none⟩ = some (.int .u8 0) := by rw [cell_blk FSu]; rfl
  have s12 : W.cell? ⟨w4.heap.size + 2, 4, none⟩ = some (.int .u8 0) := by rw [cell_blk FSu]; rfl
  have s13 : W.cell? ⟨w4.heap.size + 2, 5, none⟩ = some (.int .u8 0) := by rw [cell_blk FSu]; rfl
  have s14 : W.cell? ⟨w4.heap.size + 2, 6, none⟩ = some (.slice (some ⟨w4.heap.size + 1, 0, none⟩) 2 2) := by rw [cell_blk FSu]; rfl
  have s15 := KK
  have hall : W.cell? ⟨w1.heap.size, 0, none⟩ = some (.int .i64 0) ∧ W.cell? ⟨w2.heap.size, 0, none⟩ = some (.int .i64 5) ∧ W.cell? ⟨w2.heap.size, 1, none⟩ = some (.int .i64 1) ∧ W.cell? ⟨w2.heap.size, 2, none⟩ = some (.int .i64 5) ∧ W.cell? ⟨w3.heap.size, 0, none⟩ = some (.int .i64 5) ∧ W.cell? ⟨w3.heap.size, 1, none⟩ = some (.int .i64 1) ∧ W.cell? ⟨w3.heap.size, 2, none⟩ = some (.int .i64 2) ∧ W.cell? ⟨w4.heap.size, 0, none⟩ = some (.int .i64 0) ∧ W.cell? ⟨w4.heap.size + 2, 0, none⟩ = some (.int .u8 4) ∧ W.cell? ⟨w4.heap.size + 2, 1, none⟩ = some (.int .i64 0) ∧ W.cell? ⟨w4.heap.size + 2, 2, none⟩ = some (.int .u8 0) ∧ W.cell? ⟨w4.heap.size + 2, 3, none⟩ = some (.int .u8 0) ∧ W.cell? ⟨w4.heap.size + 2, 4, none⟩ = some (.int .u8 0) ∧ W.cell? ⟨w4.heap.size + 2, 5, none⟩ = some (.int .u8 0) ∧ W.cell? ⟨w4.heap.size + 2, 6, none⟩ = some (.slice (some ⟨w4.heap.size + 1, 0, none⟩) 2 2) ∧ W.cell? ⟨g, 5, none⟩ = some (.int .u8 1) := ⟨s0, s1, s2, s3, s4, s5, s6, s7, s8, s9, s10, s11, s12, s13, s14, s15⟩
  have lW : w4.heap.size + 2 < W.heap.size := heap_lt FSu
  have lz : ∀ W', Below W.heap.size W W' → (W'.cell? ⟨w1.heap.size, 0, none⟩ = some (.int .i64 0) ∧ W'.cell? ⟨w2.heap.size, 0, none⟩ = some (.int .i64 5) ∧ W'.cell? ⟨w2.heap.size, 1, none⟩ = some (.int .i64 1) ∧ W'.cell? ⟨w2.heap.size, 2, none⟩ = some (.int .i64 5) ∧ W'.cell? ⟨w3.heap.size, 0, none⟩ = some (.int .i64 5) ∧ W'.cell? ⟨w3.heap.size, 1, none⟩ = some (.int .i64 1) ∧ W'.cell? ⟨w3.heap.size, 2, none⟩ = some (.int .i64 2) ∧ W'.cell? ⟨w4.heap.size, 0, none⟩ = some (.int .i64 0) ∧ W'.cell? ⟨w4.heap.size + 2, 0, none⟩ = some (.int .u8 4) ∧ W'.cell? ⟨w4.heap.size + 2, 1, none⟩ = some (.int .i64 0) ∧ W'.cell? ⟨w4.heap.size + 2, 2, none⟩ = some (.int .u8 0) ∧ W'.cell? ⟨w4.heap.size + 2, 3, none⟩ = some (.int .u8 0) ∧ W'.cell? ⟨w4.heap.size + 2, 4, none⟩ = some (.int .u8 0) ∧ W'.cell? ⟨w4.heap.size + 2, 5, none⟩ = some (.int .u8 0) ∧ W'.cell? ⟨w4.heap.size + 2, 6, none⟩ = some (.slice (some ⟨w4.heap.size + 1, 0, none⟩) 2 2) ∧ W'.cell? ⟨g, 5, none⟩ = some (.int .u8 1)) := fun W' hb => ⟨cell_later hb s0, cell_later hb s1, cell_later hb s2, cell_later hb s3, cell_later hb s4, cell_later hb s5, cell_later hb s6, cell_later hb s7, cell_later hb s8, cell_later hb s9, cell_later hb s10, cell_later hb s11, cell_later hb s12, cell_later hb s13, cell_later hb s14, cell_later hb s15⟩
  have LZ := Lib.hid lz
  have HAr := Lib.hid FAr
  clear hall lz k0 k1 k2 k3 k4 F1 F2 F3 F4 FAr FSu KK x5
  go_region_held3 (fun w' => w'.cell? ⟨w1.heap.size, 0, none⟩ = some (.int .i64 0) ∧ w'.cell? ⟨w2.heap.size, 0, none⟩ = some (.int .i64 5) ∧ w'.cell? ⟨w2.heap.size, 1, none⟩ = some (.int .i64 1) ∧ w'.cell? ⟨w2.heap.size, 2, none⟩ = some (.int .i64 5) ∧ w'.cell? ⟨w3.heap.size, 0, none⟩ = some (.int .i64 5) ∧ w'.cell? ⟨w3.heap.size, 1, none⟩ = some (.int .i64 1) ∧ w'.cell? ⟨w3.heap.size, 2, none⟩ = some (.int .i64 2) ∧ w'.cell? ⟨w4.heap.size, 0, none⟩ = some (.int .i64 0) ∧ w'.cell? ⟨w4.heap.size + 2, 0, none⟩ = some (.int .u8 4) ∧ w'.cell? ⟨w4.heap.size + 2, 1, none⟩ = some (.int .i64 0) ∧ w'.cell? ⟨w4.heap.size + 2, 2, none⟩ = some (.int .u8 0) ∧ w'.cell? ⟨w4.heap.size + 2, 3, none⟩ = some (.int .u8 0) ∧ w'.cell? ⟨w4.heap.size + 2, 4, none⟩ = some (.int .u8 0) ∧ w'.cell? ⟨w4.heap.size + 2, 5, none⟩ = some (.int .u8 0) ∧ w'.cell? ⟨w4.heap.size + 2, 6, none⟩ = some (.slice (some ⟨w4.heap.size + 1, 0, none⟩) 2 2) ∧ w'.cell? ⟨g, 5, none⟩ = some (.int .u8 1))
    (first | go_keep | (with_reducible exact q5) | (with_reducible exact q6) | (with_reducible exact q7))
    (first
      | (go_at_call 13;
         refine (exprs_yes 5 _ (fun _ => True) (fun _ => True) exs1 a1 (some ⟨W.heap.size, 0, none⟩) 3 c1 3 3 (row_new ROW.out _) (liv_lit _ (w4.heap.size + 1) W.heap.size (heap_drew (heap_old HAr.out)) (heap_drew (heap_alloc_new _ _)) (by omega))).mono ?_; rintro e w5 ⟨rfl, b5⟩;
         have hb5 : Below W.heap.size W w5 := (((Below.refl _ _).alloc (Nat.le_refl _) _).drew.trans (b5.mono (by simp)));
         have q5 := LZ.out w5 hb5; have HB5 := Lib.hid hb5)
      | (go_at_call 26; refine (at_any 5 5 _).mono ?_; rintro e w6 ⟨rfl, b6⟩; have hb6 : Below W.heap.size W w6 := HB5.out.trans (b6.mono HB5.out.size); have q6 := LZ.out w6 hb6; have HB6 := Lib.hid hb6)
      | (go_at_call 26; refine (at_any 5 2 _).mono ?_; rintro e w7 ⟨rfl, b7⟩; have hb7 : Below W.heap.size W w7 := HB6.out.trans (b7.mono HB6.out.size); have q7 := LZ.out w7 hb7; have HB7 := Lib.hid hb7))
  have K7 := Lib.hid (Below.trans K0.out (HB7.out.mono K0.out.size))
  have T7 := Lib.hid (TW.out.below HB7.out)
  clear s0 s1 s2 s3 s4 s5 s6 s7 s8 s9 s10 s11 s12 s13 s14 s15 LZ q5 q6 q7 HB5 HB6 HB7 hb5 hb6 hb7 ROW HAr K0 TW HW T4 K4 H1 T1 T2 T3 K1 K2 K3
  go_wp2_with fail
  clear b4' lW b5 b6 b7
  refine (pool_ex _ _ 1 _ _ _ pex5 rfl (by decide) w7 T7.out).mono ?_
  rintro e w8 ⟨a8, c8, rfl, h8, b8⟩
  have T8 := Lib.hid ((T7.out.below b8).alloc (.cells #[.int .i64 0, .int .i64 0, .int .i64 0] 28))
  have K8 := Lib.hid (later_alloc b8 (.cells #[.int .i64 0, .int .i64 0, .int .i64 0] 28))
  have H8 := Lib.hid h8
  clear h8 b8 T7
  go_wp2_with fail
  refine (pool_ex _ _ 1 _ _ _ pex6 rfl (by decide) _ T8.out).mono ?_
  rintro e w9 ⟨a9, c9, rfl, h9, b9⟩
  have T9 := Lib.hid ((T8.out.below b9).alloc (.cells #[.int .i64 0, .int .i64 0, .int .i64 0] 28))
  have K9 := Lib.hid (later_alloc b9 (.cells #[.int .i64 0, .int .i64 0, .int .i64 0] 28))
  have H9 := Lib.hid h9
  clear h9 b9 T8
  go_wp2_with fail
  refine (pool_ex _ _ 0 _ _ _ pex7 rfl (by decide) _ T9.out).mono ?_
  rintro e w10 ⟨a10, c10, rfl, h10, b10⟩
  have T10 := Lib.hid ((T9.out.below b10).alloc (.cells #[.int .i64 5, .int .i64 1, .int .i64 6] 28))
  have K10 := Lib.hid (later_alloc b10 (.cells #[.int .i64 5, .int .i64 1, .int .i64 6] 28))
  clear h10 b10 T9
  go_wp2_with fail
  obtain ⟨V, hV⟩ : ∃ V, V = ((((w10.alloc (.cells #[.int .i64 5, .int .i64 1, .int .i64 6] 28)).alloc (.cells #[.string ⟨#[111, 103, 114, 101]⟩, .int .u8 0, .int .i64 4, .int .i64 1800, .int .i64 0, .slice none 0 0] 38)).alloc (.cells #[.int .u8 2, .int .u8 1, .int .u8 0, .int .i64 500, .int .u8 0, .int .u8 0, .int .u8 0, .int .u8 0, .slice none 0 0, .bool false, .int .u8 0, .int .u8 0, .int .u8 0] 58)).alloc (.cells #[.int .u8 0, .int .u8 0, .int .u8 0, .slice none 0 0, .int .i64 0, .int .i64 0, .bool false, .int .i64 0, .int .u8 0, .int .u8 0, .int .u8 0, .slice (some ⟨w10.heap.size + 1 + 1, 0, none⟩) 1 1] 43)).alloc (.cells #[.string ⟨#[114, 97, 105, 110]⟩, .int .u8 1, .int .i64 0, .int .i64 0, .int .i64 0, .slice (some ⟨w10.heap.size + 1 + 1 + 1, 0, none⟩) 1 1] 38) := ⟨_, rfl⟩
  have HV := Lib.hid hV
  clear hV
  rw [← HV.out]
  have L5 := ogre_lit V (w10.heap.size + 1) (by rw [HV.out]; exact heap_old (heap_old (heap_old (heap_new_at _ _ _ (by simp)))))
  have L6 := rain_lit V (w10.heap.size + 1 + 1) (w10.heap.size + 1 + 1 + 1) (w10.heap.size + 1 + 1 + 1 + 1) (by rw [HV.out]; exact heap_old (heap_old (heap_new_at _ _ _ (by simp)))) (by rw [HV.out]; exact heap_old (heap_new_at _ _ _ (by simp))) (by rw [HV.out]; exact heap_new_at _ _ _ (by simp)) (by omega) (by omega)
  have k10 : Below (w10.alloc (.cells #[.int .i64 5, .int .i64 1, .int .i64 6] 28)).heap.size (w10.alloc (.cells #[.int .i64 5, .int .i64 1, .int .i64 6] 28)) V := by rw [HV.out]; exact ((((Below.refl _ _).alloc (Nat.le_refl _) _).alloc (by simp) _).alloc (by simp) _).alloc (by simp) _
  have k9 := later_trans K10.out k10
  have k8 := later_trans K9.out k9
  have k7 := later_trans K8.out k8
  have F8 := (k8.block w8.heap.size (by simp)).trans (heap_alloc_new w8 (.cells #[.int .i64 0, .int .i64 0, .int .i64 0] 28))
  have F9 := (k9.block w9.heap.size (by simp)).trans (heap_alloc_new w9 (.cells #[.int .i64 0, .int .i64 0, .int .i64 0] 28))
  have F10 := (k10.block w10.heap.size (by simp)).trans (heap_alloc_new w10 (.cells #[.int .i64 5, .int .i64 1, .int .i64 6] 28))
  have R8 := Lib.hid (row_later CdAt.frames (row_later CdAt.frames H8.out ((Below.refl _ _).alloc (Nat.le_refl _) (.cells #[.int .i64 0, .int .i64 0, .int .i64 0] 28))) k8)
  have R9 := Lib.hid (row_later CdAt.frames (row_later CdAt.frames H9.out ((Below.refl _ _).alloc (Nat.le_refl _) (.cells #[.int .i64 0, .int .i64 0, .int .i64 0] 28))) k9)
  have Q5 := Lib.hid L5
  have Q6 := Lib.hid L6
  have KV := Lib.hid (K7.out.trans (k7.mono K7.out.size))
  have c0 : V.cell? ⟨w8.heap.size, 0, none⟩ = some (.int .i64 0) := by rw [cell_blk F8]; rfl
  have c1' : V.cell? ⟨w9.heap.size, 0, none⟩ = some (.int .i64 0) := by rw [cell_blk F9]; rfl
  have c2' : V.cell? ⟨w10.heap.size, 0, none⟩ = some (.int .i64 5) := by rw [cell_blk F10]; rfl
  have c3' : V.cell? ⟨w10.heap.size, 1, none⟩ = some (.int .i64 1) := by rw [cell_blk F10]; rfl
  have c4' : V.cell? ⟨w10.heap.size, 2, none⟩ = some (.int .i64 6) := by rw [cell_blk F10]; rfl
  have hall : V.cell? ⟨w8.heap.size, 0, none⟩ = some (.int .i64 0) ∧ V.cell? ⟨w9.heap.size, 0, none⟩ = some (.int .i64 0) ∧ V.cell? ⟨w10.heap.size, 0, none⟩ = some (.int .i64 5) ∧ V.cell? ⟨w10.heap.size, 1, none⟩ = some (.int .i64 1) ∧ V.cell? ⟨w10.heap.size, 2, none⟩ = some (.int .i64 6) := ⟨c0, c1', c2', c3', c4'⟩
  have lz : ∀ V', Below V.heap.size V V' → (V'.cell? ⟨w8.heap.size, 0, none⟩ = some (.int .i64 0) ∧ V'.cell? ⟨w9.heap.size, 0, none⟩ = some (.int .i64 0) ∧ V'.cell? ⟨w10.heap.size, 0, none⟩ = some (.int .i64 5) ∧ V'.cell? ⟨w10.heap.size, 1, none⟩ = some (.int .i64 1) ∧ V'.cell? ⟨w10.heap.size, 2, none⟩ = some (.int .i64 6)) := fun V' hb => ⟨cell_later hb c0, cell_later hb c1', cell_later hb c2', cell_later hb c3', cell_later hb c4'⟩
  have LV := Lib.hid lz
  clear lz hall k7 k8 k9 k10 F8 F9 F10 L5 L6 K7 K8 K9 K10 H8 H9 T10
  go_region_held3 (fun w' => w'.cell? ⟨w8.heap.size, 0, none⟩ = some (.int .i64 0) ∧ w'.cell? ⟨w9.heap.size, 0, none⟩ = some (.int .i64 0) ∧ w'.cell? ⟨w10.heap.size, 0, none⟩ = some (.int .i64 5) ∧ w'.cell? ⟨w10.heap.size, 1, none⟩ = some (.int .i64 1) ∧ w'.cell? ⟨w10.heap.size, 2, none⟩ = some (.int .i64 6))
    (first | go_keep | (with_reducible exact q11) | (with_reducible exact q12) | (with_reducible exact q13))
    (first
      | (go_at_call 12;
         have R8' := R8; clear R8;
         have x1 := row_later CdAt.frames R8'.out (Below.refl _ V).drew; have x2 := row_later CdAt.frames Q5.out (Below.refl _ V).drew;
         with_reducible refine (cards_yes _ (fun _ => True) (fun _ => True) cds5 a8 (some ⟨w10.heap.size + 1, 0, none⟩) 1 c8 1 1 x1 x2).mono ?_; rintro e w11 ⟨rfl, b11⟩;
         have hb11 : Below V.heap.size V w11 := ((Below.refl _ _).drew.trans (b11.mono (by simp)));
         have q11 := LV.out w11 hb11; have HB11 := Lib.hid hb11)
      | (go_at_call 12;
         have R9' := R9; clear R9;
         have x1 := row_later CdAt.frames R9'.out HB11.out; have x2 := row_later CdAt.frames Q6.out HB11.out;
         with_reducible refine (cards_yes _ (fun _ => True) (fun _ => True) cds6 a9 (some ⟨w10.heap.size + 1 + 1 + 1 + 1, 0, none⟩) 1 c9 1 1 x1 x2).mono ?_; rintro e w12 ⟨rfl, b12⟩;
         have hb12 : Below V.heap.size V w12 := HB11.out.trans (b12.mono HB11.out.size);
         have q12 := LV.out w12 hb12; have HB12 := Lib.hid hb12)
      | (go_at_call 26; refine (at_any 5 6 _).mono ?_; rintro e w13 ⟨rfl, b13⟩; have hb13 : Below V.heap.size V w13 := HB12.out.trans (b13.mono HB12.out.size); have q13 := LV.out w13 hb13; have HB13 := Lib.hid hb13))
  go_wp2_with fail
  refine bodyPost_ret (v := .bool true) (by simp [results, Tryz.results7, go_sem]) rfl ?_
  exact ⟨rfl, KV.out.trans (HB13.out.mono KV.out.size)⟩
end Go.Proofs.YtmhpopkbmnhkkaaGreatDoor
