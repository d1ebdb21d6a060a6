/- joustlaw01.lives: the document's examples come out. -/
import Derived.Test.YtdpahcnenjnbhaaDoorTokens
import Derived.Test.YtdpahcnenjnbhaaDoorWhere
import Derived.Test.YtdpahcnenjnbhaaDoorSame
namespace Go.Proofs.YtdpahcnenjnbhaaDoor
open Go.RowKit Go.Lib

def exA : List Tok := [⟨1, ⟨#[97, 98, 45, 99]⟩, (1, 1)⟩, ⟨2, ⟨#[49, 50]⟩, (1, 6)⟩, ⟨3, ⟨#[123]⟩, (2, 1)⟩, ⟨0, ⟨#[]⟩, (2, 2)⟩]
theorem ex1 : scanOf ⟨#[97, 98, 45, 99, 32, 49, 50, 10, 123]⟩ = (exA, 0, (0, 0)) := by kernel_rfl
def exB : List Tok := [⟨1, ⟨#[97]⟩, (1, 1)⟩, ⟨3, ⟨#[45]⟩, (1, 2)⟩, ⟨0, ⟨#[]⟩, (1, 3)⟩]
theorem ex2 : scanOf ⟨#[97, 45]⟩ = (exB, 0, (0, 0)) := by kernel_rfl
theorem ex3 : scanOf ⟨#[48, 48, 55]⟩ = ([], 5, (1, 1)) := by kernel_rfl
theorem ex4 : scanOf ⟨#[51, 120]⟩ = ([], 5, (1, 1)) := by kernel_rfl
theorem ex5 : scanOf ⟨#[97, 10, 195, 169, 33]⟩ = ([], 4, (2, 2)) := by kernel_rfl
theorem ex6 : wordB ⟨#[195, 169, 49]⟩ = true := by kernel_rfl
theorem ex7 : wordB ⟨#[97, 45]⟩ = false := by kernel_rfl
theorem ex8 : whereOf ⟨#[97, 10, 98]⟩ 2 = (2, 1) := by kernel_rfl

def ToksAt (w : World) (ts : List Tok) (er : Int) (at_ : Int × Int) (e : Ending) (w' : World) : Prop :=
  ∃ v, e = .returned (.tuple #[v, .agg #[.int .i64 er, .int .i64 at_.1, .int .i64 at_.2]]) ∧ HasToks w' v ts ∧ Below w.heap.size w w'
theorem Answers.at_ {w w' : World} {r : Toks} {e : Ending} (h : Answers w r e w') : ToksAt w r.1 r.2.1 r.2.2 e w' := by
  obtain ⟨v, he, ho, hb⟩ := h
  exact ⟨v, he, ⟨_, ho⟩, hb⟩
theorem later_trans {a b c : World} (h : Below a.heap.size a b) (k : Below b.heap.size b c) : Below a.heap.size a c := h.trans (k.mono h.size)
theorem later_alloc {a b : World} (h : Below a.heap.size a b) (o : Obj) : Below a.heap.size a (b.alloc o) := h.alloc h.size o
theorem Tabs.alloc {w : World} (h : Tabs w) (o : Obj) : Tabs (w.alloc o) := h.below ((Below.refl _ _).alloc (Nat.le_refl _) _)

theorem tok_call (s : ByteArray) (r : Toks) (h : scanOf s = r) (hs : s.size ≤ maxLen) (w : World) (hT : Tabs w) : Calls Tryd.prog 7 #[.string s] w (ToksAt w r.1 r.2.1 r.2.2) := by
  subst h
  exact (tokens_any s w hs hT).mono fun _ _ h => h.at_

theorem word_ex (s : ByteArray) (b : Bool) (h : wordB s = b) (hs : s.size ≤ maxLen) (w : World) (hT : Tabs w) : Calls Tryd.prog 11 #[.string s] w fun e w' => e = .returned (.bool b) ∧ Below w.heap.size w w' := by
  subst h
  exact word_any s w hs hT
theorem where_ex (s : ByteArray) (a : Int) (p : Int × Int) (h : whereOf s a = p) (hs : s.size ≤ 4611686018427387000) (w : World) : Calls Tryd.prog 13 #[.string s, .int .i64 a] w fun e w' => e = .returned (.agg #[.int .i64 p.1, .int .i64 p.2]) ∧ Below w.heap.size w w' := by
  subst h
  exact where_any s a w hs

theorem made_toks (w : World) (ts : List Tok) (h : ts.length ≤ maxLen) : HasToks (w.alloc (.cells (toksCells ts).toArray 37)) (.slice (some ⟨w.heap.size, 0, none⟩) ts.length ts.length) ts := by
  refine ⟨w.heap.size, toksCells_len ts, .inr ⟨w.heap.size, ts.length, (toksCells ts).toArray, rfl, Nat.le_refl _, heap_alloc_new w _, Nat.le_refl _, h, ?_, ?_⟩⟩
  · simp [toksCells_len]
  · rw [← toksCells_len]; simp

set_option maxHeartbeats 4000000 in
set_option maxRecDepth 100000 in
theorem lives_any (w : World) (hT : Tabs w) : Calls Tryd.prog 6 #[] w fun e w' => e = .returned (.bool true) ∧ Below w.heap.size w w' := by
  go_enter Tryd.func6, Tryd.ntmps6
  go_wp2_with fail
  refine (tok_call _ _ ex1 (by decide) w hT).mono ?_
  rintro e w1 ⟨v1, rfl, h1, b1⟩
  have t1 := hT.below b1
  go_wp2_with fail
  refine (tok_call _ _ ex2 (by decide) _ (by exact (t1.alloc _).alloc _)).mono ?_
  rintro e w2 ⟨v2, rfl, h2, b2⟩
  have t2 := ((t1.alloc _).alloc _).below b2
  go_wp2_with fail
  refine (tok_call _ _ ex3 (by decide) _ (by exact t2.alloc _)).mono ?_
  rintro e w3 ⟨v3, rfl, h3, b3⟩
  have t3 := (t2.alloc _).below b3
  go_wp2_with fail
  refine (tok_call _ _ ex4 (by decide) _ (by exact t3.alloc _)).mono ?_
  rintro e w4 ⟨v4, rfl, h4, b4⟩
  have t4 := (t3.alloc _).below b4
  go_wp2_with fail
  refine (tok_call _ _ ex5 (by decide) _ (by exact t4.alloc _)).mono ?_
  rintro e w5 ⟨v5, rfl, h5, b5⟩
  have t5 := (t4.alloc _).below b5
  have k5 := later_alloc b5 (.cells #[.int .i64 4, .int .i64 2, .int .i64 2] 28)
  have k4 := later_trans (later_alloc b4 (.cells #[.int .i64 5, .int .i64 1, .int .i64 1] 28)) k5
  have k3 := later_trans (later_alloc b3 (.cells #[.int .i64 5, .int .i64 1, .int .i64 1] 28)) k4
  have k2 := later_trans (later_alloc b2 (.cells #[.int .i64 0, .int .i64 0, .int .i64 0] 28)) k3
  have k1 := later_trans (later_alloc (later_alloc b1 (.cells #[.int .i64 0, .int .i64 0, .int .i64 0] 28)) (.cells (toksCells exA).toArray 37)) k2
  have hv1 : HasToks (w5.alloc (.cells #[.int .i64 4, .int .i64 2, .int .i64 2] 28)) v1 exA := (h1.later (later_alloc (later_alloc (Below.refl _ _) (.cells #[.int .i64 0, .int .i64 0, .int .i64 0] 28)) (.cells (toksCells exA).toArray 37))).later k2
  have hwt : HasToks (w5.alloc (.cells #[.int .i64 4, .int .i64 2, .int .i64 2] 28)) (.slice (some ⟨w1.heap.size + 1, 0, none⟩) 4 4) exA := by
    have := (made_toks (w1.alloc (.cells #[.int .i64 0, .int .i64 0, .int .i64 0] 28)) exA (by decide)).later k2
    simpa [show exA.length = 4 from rfl] using this
  have F1 := (k2.block w1.heap.size (by simp; omega)).trans ((Below.heap_alloc _ (.cells (toksCells exA).toArray 37) w1.heap.size (by simp)).trans (heap_alloc_new w1 (.cells #[.int .i64 0, .int .i64 0, .int .i64 0] 28)))
  have F2 := (k3.block w2.heap.size (by simp)).trans (heap_alloc_new w2 (.cells #[.int .i64 0, .int .i64 0, .int .i64 0] 28))
  have F3 := (k4.block w3.heap.size (by simp)).trans (heap_alloc_new w3 (.cells #[.int .i64 5, .int .i64 1, .int .i64 1] 28))
  have F4 := (k5.block w4.heap.size (by simp)).trans (heap_alloc_new w4 (.cells #[.int .i64 5, .int .i64 1, .int .i64 1] 28))
  have F5 := heap_alloc_new w5 (.cells #[.int .i64 4, .int .i64 2, .int .i64 2] 28)
  rcases h2.open with ⟨_, hno⟩ | ⟨g, cp, rfl, hcp, hcm, hcells⟩
  · exact absurd hno (by simp [exB])
  obtain ⟨_, x0, _, _⟩ := hcells 0 _ rfl
  obtain ⟨_, x1, _, _⟩ := hcells 1 _ rfl
  have y0 := cell_later k3 (cell_later (later_alloc (Below.refl _ _) _) x0)
  have y1 := cell_later k3 (cell_later (later_alloc (Below.refl _ _) _) x1)
  have t6 := t5.alloc (.cells #[.int .i64 4, .int .i64 2, .int .i64 2] 28)
  have hlen : exB.length = 3 := rfl
  rw [hlen] at hcp ⊢
  clear hcells x0 x1 b1 b2 b3 b4 b5 k2 k3 k4 k5 t1 t2 t3 t4 t5 h1 h3 h4 h5 h2 hlen
  go_wp2_with fail
  generalize w5.alloc (.cells #[.int .i64 4, .int .i64 2, .int .i64 2] 28) = W at *
  refine (toks_yes _ _ _ _ _ hv1 hwt rfl (fun k t u ht hu => by rw [ht] at hu; cases hu; exact ⟨rfl, rfl⟩)).mono ?_
  rintro e w6 ⟨rfl, b6⟩
  go_wp2_with fail
  refine (spots_yes _ _ _ _ _ (hv1.later b6) (hwt.later b6) rfl (fun k t u ht hu => by rw [ht] at hu; cases hu; rfl)).mono ?_
  rintro e w7 ⟨rfl, b7⟩
  have k7 := later_trans b6 b7
  have t7 := t6.below k7
  have k0 := later_trans k1 k7
  have z0 := cell_later k7 y0
  have z1 := cell_later k7 y1
  have G1 := cell_blk (i := 0) ((k7.block _ (heap_lt F1)).trans F1)
  have G2 := cell_blk (i := 0) ((k7.block _ (heap_lt F2)).trans F2)
  have G30 := cell_blk (i := 0) ((k7.block _ (heap_lt F3)).trans F3)
  have G31 := cell_blk (i := 1) ((k7.block _ (heap_lt F3)).trans F3)
  have G32 := cell_blk (i := 2) ((k7.block _ (heap_lt F3)).trans F3)
  have G40 := cell_blk (i := 0) ((k7.block _ (heap_lt F4)).trans F4)
  have G41 := cell_blk (i := 1) ((k7.block _ (heap_lt F4)).trans F4)
  have G42 := cell_blk (i := 2) ((k7.block _ (heap_lt F4)).trans F4)
  have G50 := cell_blk (i := 0) ((k7.block _ (heap_lt F5)).trans F5)
  have G51 := cell_blk (i := 1) ((k7.block _ (heap_lt F5)).trans F5)
  have G52 := cell_blk (i := 2) ((k7.block _ (heap_lt F5)).trans F5)
  clear F1 F2 F3 F4 F5 y0 y1 hv1 hwt b6 b7 k7 k1 t6
  simp at G1 G2 G30 G31 G32 G40 G41 G42 G50 G51 G52
  go_wp2_with fail
  refine (word_ex _ _ ex6 (by decide) _ t7).mono ?_
  rintro e w8 ⟨rfl, b8⟩
  go_wp2_with fail
  refine (word_ex _ _ ex7 (by decide) _ (t7.below b8)).mono ?_
  rintro e w9 ⟨rfl, b9⟩
  go_wp2_with fail
  refine (where_ex _ _ _ ex8 (by decide) _).mono ?_
  rintro e w10 ⟨rfl, b10⟩
  go_wp2
  go_ret
  exact ⟨rfl, later_trans (later_trans (later_trans k0 b8) b9) b10⟩
end Go.Proofs.YtdpahcnenjnbhaaDoor
