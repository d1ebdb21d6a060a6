import Derived.Test.YtmhpopkbmnhkkaaGreatDoorQParA
import Derived.Test.YtmhpopkbmnhkkaaGreatDoorQPar
import Derived.Deep.RegionHeld3
import Derived.Deep.AppendLies
import Derived.Deep.DeepCutAuto
/- Layer 2 (parse): a reader reads which cards are meant. -/
namespace Go.Proofs.YtmhpopkbmnhkkaaGreatDoor
open Go.RowKit Go.Lib

theorem Goes.start {w : World} {E : Env} {s : RS} {d : Int} (h : Rd w E s d) : Goes w E s d w := ⟨h, Kept.refl _ _⟩
theorem Goes.alloc {w W : World} {E : Env} {s : RS} {d : Int} (g : Goes w E s d W) (o : Obj) : Goes w E s d (W.alloc o) := g.below ((Below.refl _ _).alloc (Nat.le_refl _) _)
theorem Goes.drew {w W : World} {E : Env} {s : RS} {d : Int} (g : Goes w E s d W) : Goes w E s d W.drew := g.below (Below.refl _ _).drew
/-- A store into a block that is new. -/
theorem Goes.store {w W : World} {E : Env} {s : RS} {d : Int} (g : Goes w E s d W) (h : EnvAt w E ∧ E.R < w.heap.size) {p : Addr} (hp : w.heap.size ≤ p.block) (u : Value) : Goes w E s d (W.setCell p u) := by
  have k := g.kept.setCell (p := p) (.inr hp) u
  refine ⟨⟨h.1.kept k, ?_, g.rd.fits⟩, k⟩
  rw [heap_set_far (by omega)]
  exact g.rd.rd
theorem Rd.both {w : World} {E : Env} {s : RS} {d : Int} (h : Rd w E s d) : EnvAt w E ∧ E.R < w.heap.size := ⟨h.env, h.lt⟩
theorem heap_old {w : World} {k : Nat} {o o' : Obj} (h : w.heap[k]? = some o) : (w.alloc o').heap[k]? = some o := (Below.heap_alloc _ _ _ (heap_lt h)).trans h
theorem heap_drew {w : World} {k : Nat} {o : Obj} (h : w.heap[k]? = some o) : w.drew.heap[k]? = some o := h
theorem heap_set_to {w : World} {g i : Nat} {t : TypeId} {cs cs' : Array Value} {u : Value} (h : w.heap[g]? = some (.cells cs t (0, 0))) (e : cs.setIfInBounds i u = cs') : (w.setCell ⟨g, i, none⟩ u).heap[g]? = some (.cells cs' t (0, 0)) := by rw [heap_set h, e]
theorem heap_other {w : World} {k : Nat} {a : Addr} {u : Value} {o : Obj} (h : w.heap[k]? = some o) (hne : k ≠ a.block) : (w.setCell a u).heap[k]? = some o := (heap_set_far hne u).trans h

theorem heap_new_at (w : World) (o : Obj) (k : Nat) (h : w.heap.size = k) : (w.alloc o).heap[k]? = some o := by subst h; exact heap_alloc_new w o
/-- Behind an append to a row that is new. -/
theorem Goes.grown {w W W' : World} {E : Env} {s : RS} {d : Int} (g : Goes w E s d W) (h : EnvAt w E ∧ E.R < w.heap.size) {row : Option Nat} (hg : W.grownBy W' row) (hr : ∀ k, row = some k → w.heap.size ≤ k) : Goes w E s d W' := by
  have k : Kept E.R w W' := ⟨hg.os.trans g.kept.os, hg.tape.trans g.kept.tape, hg.output.trans g.kept.output, Nat.le_trans g.kept.size hg.size,
    fun i hi hne => (hg.block i (Nat.lt_of_lt_of_le hi g.kept.size) (fun e => by have := hr i e.symm; omega)).trans (g.kept.block i hi hne)⟩
  refine ⟨⟨h.1.kept k, ?_, g.rd.fits⟩, k⟩
  exact (hg.block _ (heap_lt g.rd.rd) (fun e => by have := hr _ e.symm; have := h.2; omega)).trans g.rd.rd
theorem add_off (b j : Nat) : (⟨b, 0, none⟩ : Addr).add j = ⟨b, j, none⟩ := by
  unfold Addr.add
  split
  · rename_i h; subst h; rfl
  · simp
theorem words_news {w : World} {b : Nat} {ws : List ByteArray} (h : ∀ j, j < ws.length → w.cell? ⟨b, j, none⟩ = some (.string (ws.getD j ByteArray.empty))) : ∀ j u, (ws.map Value.string)[j]? = some u → w.cell? ((⟨b, 0, none⟩ : Addr).add j) = some u := by
  intro j u hu
  rw [add_off]
  have hj : j < ws.length := by have := (List.getElem?_eq_some_iff.1 hu).1; simpa using this
  rw [h j hj, ← hu]
  simp [hj]

theorem words_row {w : World} {R b : Nat} {t : TypeId} {v : Value} {n : Nat} {ws : List ByteArray} (hn : n = ws.length) (h : w.ownsRow b t 1 v n (ws.map Value.string)) (h0 : 0 < ws.length) (hR : R < b) : WordsAt w R v ws := by
  subst hn
  rcases h.2 with ⟨_, h1⟩ | ⟨g, cap, cur, hv, hg, hh, _, _, _, ht⟩
  · omega
  · refine ⟨g, cap, hv, by omega, fun j hj => ?_⟩
    rw [cell_blk hh]
    have : cur.toList[j]? = (ws.map Value.string)[j]? := by rw [← ht, List.getElem?_take_of_lt (by omega)]
    simpa [hj] using this

def SelEnds (E : Env) (s : RS) (d : Int) (w : World) (e : Ending) (w' : World) : Prop := ∃ (x : Sl) (s' : RS), e = .returned (.agg #[.int .u8 x.side, .int .u8 x.zone, .int .u8 x.kind]) ∧ Res (pSel E.ts) s x s' ∧ Goes w E s' d w'

theorem Tryz.stringInfo : (Tryz.prog.info? 9).map (fun i => (i.zero, i.size, i.bytes)) = some (some (.string ⟨#[]⟩), 1, 16) := by kernel_rfl

set_option maxHeartbeats 2000000 in
set_option maxRecDepth 100000 in
theorem sel_any (E : Env) (s : RS) (d : Int) (w : World) (h : Rd w E s d) :
    Calls Tryz.prog 82 #[.pointer (some ⟨E.R, 0, none⟩)] w (SelEnds E s d w) := by
  have HE := Lib.hid h.both
  have GG := Lib.hid (Goes.start h)
  have hlt := h.lt
  obtain ⟨i0, hi0, hz0, hz1, hz2⟩ := info_parts Tryz.stringInfo
  clear h
  go_enter Tryz.func82, Tryz.ntmps82
  go_wp2_with fail
  refine (side_any E s d _ (Goes.rd (w := w) (by repeat (first | (with_reducible exact GG.out) | (with_reducible refine Goes.alloc ?_ _) | (with_reducible refine Goes.drew ?_) | ((with_reducible refine Goes.store ?_ HE.out ?_ _); rotate_left; focus (first | (simp; done) | (simp; omega) | omega)))))).mono ?_
  rintro e w1 ⟨k1, s1, rfl, r1, l1, g1⟩
  have hS := g1.kept.heap (k := w.heap.size + 1) (by omega) (by have := heap_alloc_new (w.alloc (.cells #[.int .u8 0, .int .u8 0, .int .u8 0] 40)) (.cells #[.int .u8 0, .int .u8 0, .int .u8 0] 40); simpa using this)
  have HB : Hid (w1.heap[w.heap.size]? = some (.cells #[.int .u8 0, .int .u8 0, .int .u8 0] 40 (0, 0))) := by refine g1.kept.heap (by omega) ?_; exact (by repeat (first | (with_reducible exact HB.out) | (with_reducible exact heap_alloc_new _ _) | (with_reducible refine heap_old ?_) | (with_reducible refine heap_drew ?_) | ((with_reducible refine heap_other ?_ ?_); rotate_left; focus (first | (simp; done) | (simp; omega) | omega))))
  have GG := Lib.hid (Goes.trans (w := w) (E := E) (s := s) (d := d) (by repeat (first | (with_reducible exact GG.out) | (with_reducible refine Goes.alloc ?_ _) | (with_reducible refine Goes.drew ?_) | ((with_reducible refine Goes.store ?_ HE.out ?_ _); rotate_left; focus (first | (simp; done) | (simp; omega) | omega)))) g1)
  have t0 := cell_blk (i := 0) hS
  have f0 := free_blk (i := 0) hS
  simp at t0
  have R1 := Lib.hid (And.intro r1 l1)
  have HS := Lib.hid hS
  have sz1 : w.heap.size + 1 < w1.heap.size := heap_lt hS
  clear g1 r1 l1 hS
  go_wp2_with fail
  refine (oneOf_any E s1 d _ _ zonesW wordy_zones (words_zones _ E.R _ (by simp) (by omega)) (Goes.rd (w := w) (by repeat (first | (with_reducible exact GG.out) | (with_reducible refine Goes.alloc ?_ _) | (with_reducible refine Goes.drew ?_) | ((with_reducible refine Goes.store ?_ HE.out ?_ _); rotate_left; focus (first | (simp; done) | (simp; omega) | omega)))))).mono ?_
  rintro e w2 ⟨k2, s2, rfl, r2, l2, g2⟩
  have hS := g2.kept.heap (k := w.heap.size + 1) (by omega) (heap_old (heap_set_to HS.out rfl))
  have HB : Hid (w2.heap[w.heap.size]? = some (.cells #[.int .u8 0, .int .u8 0, .int .u8 0] 40 (0, 0))) := by refine g2.kept.heap (by omega) ?_; exact (by repeat (first | (with_reducible exact HB.out) | (with_reducible exact heap_alloc_new _ _) | (with_reducible refine heap_old ?_) | (with_reducible refine heap_drew ?_) | ((with_reducible refine heap_other ?_ ?_); rotate_left; focus (first | (simp; done) | (simp; omega) | omega))))
  have GG := Lib.hid (Goes.trans (w := w) (E := E) (s := s1) (d := d) (by repeat (first | (with_reducible exact GG.out) | (with_reducible refine Goes.alloc ?_ _) | (with_reducible refine Goes.drew ?_) | ((with_reducible refine Goes.store ?_ HE.out ?_ _); rotate_left; focus (first | (simp; done) | (simp; omega) | omega)))) g2)
  have t1 := cell_blk (i := 1) hS
  have f1 := free_blk (i := 1) hS
  have R2 := Lib.hid (And.intro r2 l2)
  have HS := Lib.hid hS
  have sz2 : w.heap.size + 1 < w2.heap.size := heap_lt hS
  simp at t1
  clear g2 r2 l2 hS
  go_wp2_with fail
  refine (kinds_any E.R _ (by simp; omega)).mono ?_
  rintro e w3 ⟨v3, rfl, hv, b3⟩
  obtain ⟨bk, ck, rfl, hbk, hck⟩ := hv
  have hS := (b3.block (w.heap.size + 1) (by simp; omega)).trans (heap_old (heap_set_to HS.out rfl))
  have hA := (b3.block (w2.heap.size) (by simp)).trans (heap_new_at _ _ _ (by simp))
  have sz3 : w2.heap.size < w3.heap.size := heap_lt hA
  have HB : Hid (w3.heap[w.heap.size]? = some (.cells #[.int .u8 0, .int .u8 0, .int .u8 0] 40 (0, 0))) := by refine (b3.block w.heap.size (by simp; omega)).trans ?_; exact (by repeat (first | (with_reducible exact HB.out) | (with_reducible exact heap_alloc_new _ _) | (with_reducible refine heap_old ?_) | (with_reducible refine heap_drew ?_) | ((with_reducible refine heap_other ?_ ?_); rotate_left; focus (first | (simp; done) | (simp; omega) | omega))))
  have GG := Lib.hid (Goes.below (w := w) (E := E) (s := s2) (d := d) (by repeat (first | (with_reducible exact GG.out) | (with_reducible refine Goes.alloc ?_ _) | (with_reducible refine Goes.drew ?_) | ((with_reducible refine Goes.store ?_ HE.out ?_ _); rotate_left; focus (first | (simp; done) | (simp; omega) | omega)))) b3)
  have HO : Hid (w3.ownsRow w.heap.size 9 1 (.slice (some ⟨w2.heap.size, 0, none⟩) 1 1) 1 [.string ⟨#[97, 108, 108]⟩]) := ⟨rfl, .inr ⟨_, _, _, rfl, by omega, hA, by omega, by decide, rfl, rfl⟩⟩
  have HN := Lib.hid (words_news hck)
  have HS := Lib.hid hS
  clear b3 hA hS hbk hck
  rw [show kindsW.length = 5 from rfl]
  go_wp2_with (at_builtin; (refine wpList_append_lies _ rfl (.tmp 12) (.tmp 13) 66 rfl w.heap.size 9 i0 _ 1 16 Tryz.underlying66 hi0 hz0 hz1 hz2 rfl (by omega) _ 1 [.string ⟨#[97, 108, 108]⟩] rfl HO.out ⟨bk, 0, none⟩ 5 ck (kindsW.map Value.string) rfl rfl HN.out (by decide) (by omega) (by decide) (by omega) (by omega) _ rfl ?_; intro g cap w4 hown4 hgrow4 hat4 hlt4; have hgr : w3.grownBy w4 (some w2.heap.size) := hgrow4; clear hgrow4 hat4))
  have HW : WordsAt w4 E.R (.slice (some ⟨g, 0, none⟩) 6 cap) selKindsW := words_row (n := 6) rfl hown4 (by decide) hlt
  have GG := Lib.hid (Goes.grown (w := w) (E := E) (s := s2) (d := d) GG.out HE.out hgr (fun k hk => by have := Option.some.inj hk; omega))
  have HS := Lib.hid ((hgr.block (w.heap.size + 1) (by omega) (by simp; omega)).trans HS.out)
  have sz4 : w.heap.size + 1 < w4.heap.size := heap_lt HS.out
  have HB : Hid (w4.heap[w.heap.size]? = some (.cells #[.int .u8 0, .int .u8 0, .int .u8 0] 40 (0, 0))) := (hgr.block w.heap.size (by omega) (by simp; omega)).trans HB.out
  clear hgr hown4
  go_wp2_with fail
  refine (oneOf_any E s2 d _ _ selKindsW wordy_selKinds HW (Goes.rd (w := w) (by repeat (first | (with_reducible exact GG.out) | (with_reducible refine Goes.alloc ?_ _) | (with_reducible refine Goes.drew ?_) | ((with_reducible refine Goes.store ?_ HE.out ?_ _); rotate_left; focus (first | (simp; done) | (simp; omega) | omega)))))).mono ?_
  rintro e w5 ⟨k3, s3, rfl, r3, l3, g3⟩
  have hS := g3.kept.heap (k := w.heap.size + 1) (by omega) HS.out
  have GG := Lib.hid (Goes.trans (w := w) (E := E) (s := s2) (d := d) (by repeat (first | (with_reducible exact GG.out) | (with_reducible refine Goes.alloc ?_ _) | (with_reducible refine Goes.drew ?_) | ((with_reducible refine Goes.store ?_ HE.out ?_ _); rotate_left; focus (first | (simp; done) | (simp; omega) | omega)))) g3)
  have t0 := cell_blk (i := 0) hS
  have t1 := cell_blk (i := 1) hS
  have t2 := cell_blk (i := 2) hS
  have f2 := free_blk (i := 2) hS
  have R3 := Lib.hid (And.intro r3 l3)
  have sz5 : w.heap.size + 1 < w5.heap.size := heap_lt hS
  have hB := g3.kept.heap (k := w.heap.size) (by omega) HB.out
  have e0 := free_blk (i := 0) hB
  have e1 := free_blk (i := 1) hB
  have e2 := free_blk (i := 2) hB
  have q0 := cell_blk (i := 0) hB
  have q1 := cell_blk (i := 1) hB
  have q2 := cell_blk (i := 2) hB
  simp at t0 t1 t2 q0 q1 q2
  clear g3 r3 l3 hS hB
  go_wp2
  refine bodyPost_ret (v := .agg #[.int .u8 k1, .int .u8 k2, .int .u8 k3]) (by simp [results, Tryz.results82, go_sem, q0, q1, q2]) rfl ?_
  exact ⟨⟨k1, k2, k3⟩, s3, rfl, Res.bind R1.out.1 (Res.bind R2.out.1 (Res.map _ R3.out.1)), (by repeat (first | (with_reducible exact GG.out) | (with_reducible refine Goes.alloc ?_ _) | (with_reducible refine Goes.drew ?_) | ((with_reducible refine Goes.store ?_ HE.out ?_ _); rotate_left; focus (first | (simp; done) | (simp; omega) | omega))))⟩
end Go.Proofs.YtmhpopkbmnhkkaaGreatDoor

/- Layer 2 (parse): expressions: what every depth shares. -/
namespace Go.Proofs.YtmhpopkbmnhkkaaGreatDoor
open Go.RowKit Go.Lib

theorem str_ne_l {a : ByteArray} {l : List UInt8} (h : a ≠ ⟨l.toArray⟩) : (a.toList == l) = false := by
  rw [beq_eq_false_iff_ne, ByteArray.toList_eq]
  intro e
  exact h (ByteArray.ext (by rw [← e]))
theorem str_eq_l {a : ByteArray} {l : List UInt8} (h : a = ⟨l.toArray⟩) : (a.toList == l) = true := by
  subst h
  rw [beq_iff_eq, ByteArray.toList_eq]
theorem Tryz.exprInfo : (Tryz.prog.info? 46).map (fun i => (i.zero, i.size, i.bytes)) = some (some (.agg #[.int .u8 0, .int .i64 0, .int .u8 0, .int .u8 0, .int .u8 0, .int .u8 0, .slice none 0 0]), 7, 48) := by kernel_rfl
theorem Tryz.stepInfo : (Tryz.prog.info? 58).map (fun i => (i.zero, i.size, i.bytes)) = some (some (.agg #[.int .u8 0, .int .u8 0, .int .u8 0, .int .i64 0, .int .u8 0, .int .u8 0, .int .u8 0, .int .u8 0, .slice none 0 0, .bool false, .int .u8 0, .int .u8 0, .int .u8 0]), 13, 64) := by kernel_rfl
theorem Tryz.effectInfo : (Tryz.prog.info? 43).map (fun i => (i.zero, i.size, i.bytes)) = some (some (.agg #[.int .u8 0, .int .u8 0, .int .u8 0, .slice none 0 0, .int .i64 0, .int .i64 0, .bool false, .int .i64 0, .int .u8 0, .int .u8 0, .int .u8 0, .slice none 0 0]), 12, 96) := by kernel_rfl
theorem Tryz.cardInfo : (Tryz.prog.info? 38).map (fun i => (i.zero, i.size, i.bytes)) = some (some (.agg #[.string ⟨#[]⟩, .int .u8 0, .int .i64 0, .int .i64 0, .int .i64 0, .slice none 0 0]), 6, 72) := by kernel_rfl

def pNestAt (ts : List Tok) : Nat → Par Ex
  | 0 => pFail ts 3
  | k + 1 => pNest ts (pExpr ts k)
theorem pExpr_by (ts : List Tok) (k : Nat) : pExpr ts k = pExprBy ts (pNestAt ts k) := by cases k <;> rfl

/-- An expression is handed back, so deep at most. -/
def ExEnds (p : Par Ex) (E : Env) (s : RS) (d : Int) (k : Nat) (w : World) (e : Ending) (w' : World) : Prop := ∃ (x : Ex) (va : Option Addr) (vn vc : Nat) (s' : RS),
  e = .returned (.agg #[.int .u8 x.op, .int .i64 x.n, .int .u8 x.side, .int .u8 x.sel.side, .int .u8 x.sel.zone, .int .u8 x.sel.kind, .slice va vn vc]) ∧ ExAt k w' (From w.heap.size) (exV x (.slice va vn vc)) x ∧ Res p s x s' ∧ Goes w E s' d w'
def ExprSaid (k : Nat) : Prop := ∀ (E : Env) (s : RS) (d : Int) (w : World), 0 ≤ d ∧ d + k = 5 → Rd w E s d → Calls Tryz.prog 42 #[.pointer (some ⟨E.R, 0, none⟩)] w (ExEnds (pExpr E.ts k) E s d k w)
def NestedSaid (k : Nat) : Prop := ∀ (E : Env) (s : RS) (d : Int) (w : World), 0 ≤ d ∧ d + k = 5 → Rd w E s d → Calls Tryz.prog 79 #[.pointer (some ⟨E.R, 0, none⟩)] w (ExEnds (pNestAt E.ts k) E s d k w)

theorem ExAt.at_leaf (k : Nat) (w : World) (S : Nat → Prop) (o : Nat) (n : Int) (sd : Nat) (x : Sl) : ExAt k w S (exV (.mk o n sd x []) (.slice none 0 0)) (.mk o n sd x []) := ExAt.leaf _ _ _ _ rfl

set_option maxHeartbeats 1000000 in
set_option maxRecDepth 100000 in
theorem nested_zero : NestedSaid 0 := by
  intro E s d w hd h
  have hd5 : d = 5 := by omega
  obtain ⟨-, -, c2, -, -, -⟩ := h.cells
  have HE := Lib.hid h.both
  have GG := Lib.hid (Goes.start h)
  have hlt := h.lt
  subst hd5
  clear h hd
  go_enter Tryz.func79, Tryz.ntmps79
  go_wp2_with fail
  refine (fail_any E s 5 _ 3 (by decide) (Goes.rd (w := w) (by repeat (first | (with_reducible exact GG.out) | (with_reducible refine Goes.alloc ?_ _) | (with_reducible refine Goes.drew ?_) | ((with_reducible refine Goes.store ?_ HE.out ?_ _); rotate_left; focus (first | (simp; done) | (simp; omega) | omega)))))).mono ?_
  rintro e w1 ⟨rfl, g1⟩
  have hB : w1.heap[w.heap.size]? = some (.cells #[.int .u8 0, .int .i64 0, .int .u8 0, .int .u8 0, .int .u8 0, .int .u8 0, .slice none 0 0] 46 (0, 0)) := by refine g1.kept.heap (by omega) ?_; exact (by repeat (first | (with_reducible exact HB.out) | (with_reducible exact heap_alloc_new _ _) | (with_reducible refine heap_old ?_) | (with_reducible refine heap_drew ?_) | ((with_reducible refine heap_other ?_ ?_); rotate_left; focus (first | (simp; done) | (simp; omega) | omega))))
  have GG := Lib.hid (Goes.trans (w := w) (E := E) (s := s) (d := 5) (by repeat (first | (with_reducible exact GG.out) | (with_reducible refine Goes.alloc ?_ _) | (with_reducible refine Goes.drew ?_) | ((with_reducible refine Goes.store ?_ HE.out ?_ _); rotate_left; focus (first | (simp; done) | (simp; omega) | omega)))) g1)
  have HB := Lib.hid hB
  have e0 := cell_blk (i := 0) hB
  have e1 := cell_blk (i := 1) hB
  have e2 := cell_blk (i := 2) hB
  have e3 := cell_blk (i := 3) hB
  have e4 := cell_blk (i := 4) hB
  have e5 := cell_blk (i := 5) hB
  have e6 := cell_blk (i := 6) hB
  have ef0 := free_blk (i := 0) hB
  have ef1 := free_blk (i := 1) hB
  have ef2 := free_blk (i := 2) hB
  have ef3 := free_blk (i := 3) hB
  have ef4 := free_blk (i := 4) hB
  have ef5 := free_blk (i := 5) hB
  have ef6 := free_blk (i := 6) hB
  simp at e0 e1 e2 e3 e4 e5 e6
  clear g1 hB
  go_wp2
  refine bodyPost_ret (v := .agg #[.int .u8 0, .int .i64 0, .int .u8 0, .int .u8 0, .int .u8 0, .int .u8 0, .slice none 0 0]) (by simp [results, Tryz.results79, go_sem, e0, e1, e2, e3, e4, e5, e6]) rfl ?_
  exact ⟨.zero, _, _, _, s.fails E 3, rfl, ExAt.at_leaf _ _ _ _ _ _ _, Res.fails E 3 s _, (by repeat (first | (with_reducible exact GG.out) | (with_reducible refine Goes.alloc ?_ _) | (with_reducible refine Goes.drew ?_) | ((with_reducible refine Goes.store ?_ HE.out ?_ _); rotate_left; focus (first | (simp; done) | (simp; omega) | omega))))⟩
end Go.Proofs.YtmhpopkbmnhkkaaGreatDoor

/- Layer 2 (parse): an expression, if what stands in parentheses is read so deep. -/
namespace Go.Proofs.YtmhpopkbmnhkkaaGreatDoor
open Go.RowKit Go.Lib

theorem pExpr_at (ts : List Tok) (k p : Nat) : pExpr ts k p = pExprBy ts (pNestAt ts k) p := by rw [pExpr_by]
theorem res_expr {ts : List Tok} {k : Nat} {s s' : RS} {x : Ex} {f : Par Ex} (hf : ∀ p, s = .ok p → pExpr ts k p = f p) (h : Res f s x s') : Res (pExpr ts k) s x s' := h.congr fun p hp => (hf p hp).symm

set_option maxHeartbeats 2000000 in
set_option maxRecDepth 100000 in
theorem expr_of (k : Nat) (hn : NestedSaid k) : ExprSaid k := by
  intro E s d w hd h
  have HN := Lib.hid hn
  have hnext := next_reads E s d
  have HE := Lib.hid h.both
  have GG := Lib.hid (Goes.start h)
  have hlt := h.lt
  have HD := Lib.hid hd
  have HX := Lib.hid hnext
  clear hn hnext hd
  rcases sees_or h ⟨#[40]⟩ (by decide) with ⟨p, rfl, hp, ht⟩ | ht1
  · have ht' : (E.tok (.ok p)).text = ⟨#[40]⟩ := ht
    have hpe : Hid (∀ q, RS.ok p = .ok q → pExpr E.ts k q = pNestAt E.ts k q) := fun q hq => by cases hq; rw [pExpr_at, pExprBy, if_pos ht]
    clear h hp ht
    go_enter Tryz.func42, Tryz.ntmps42
    go_wp2_with fail
    refine (HX.out _ (Goes.rd (w := w) (by repeat (first | (with_reducible exact GG.out) | (with_reducible refine Goes.alloc ?_ _) | (with_reducible refine Goes.drew ?_) | ((with_reducible refine Goes.store ?_ HE.out ?_ _); rotate_left; focus (first | (simp; done) | (simp; omega) | omega)))))).mono ?_
    rintro e w1 ⟨rfl, b1⟩
    have HB : Hid (w1.heap[w.heap.size]? = some (.cells #[.int .u8 0, .int .i64 0, .int .u8 0, .int .u8 0, .int .u8 0, .int .u8 0, .slice none 0 0] 46 (0, 0))) := by refine (b1.block _ (by simp)).trans ?_; exact (by repeat (first | (with_reducible exact HB.out) | (with_reducible exact heap_alloc_new _ _) | (with_reducible refine heap_old ?_) | (with_reducible refine heap_drew ?_) | ((with_reducible refine heap_other ?_ ?_); rotate_left; focus (first | (simp; done) | (simp; omega) | omega))))
    have GG := Lib.hid (Goes.below (w := w) (E := E) (s := .ok p) (d := d) (by repeat (first | (with_reducible exact GG.out) | (with_reducible refine Goes.alloc ?_ _) | (with_reducible refine Goes.drew ?_) | ((with_reducible refine Goes.store ?_ HE.out ?_ _); rotate_left; focus (first | (simp; done) | (simp; omega) | omega)))) b1)
    have sz1 : w.heap.size < w1.heap.size := heap_lt HB.out
    generalize E.tok (.ok p) = t at *
    obtain ⟨kd, tx, l, c⟩ := t
    simp only [] at ht'
    subst ht'
    have hf1 := tokf1 kd ⟨#[40]⟩ l c
    clear b1
    go_wp2_with fail
    refine (HN.out E _ d _ HD.out (Goes.rd (w := w) (by repeat (first | (with_reducible exact GG.out) | (with_reducible refine Goes.alloc ?_ _) | (with_reducible refine Goes.drew ?_) | ((with_reducible refine Goes.store ?_ HE.out ?_ _); rotate_left; focus (first | (simp; done) | (simp; omega) | omega)))))).mono ?_
    rintro e w2 ⟨x, va, vn, vc, s2, rfl, hx, hr, g2⟩
    have hB : w2.heap[w.heap.size]? = some (.cells #[.int .u8 0, .int .i64 0, .int .u8 0, .int .u8 0, .int .u8 0, .int .u8 0, .slice none 0 0] 46 (0, 0)) := by refine g2.kept.heap (by omega) ?_; exact (by repeat (first | (with_reducible exact HB.out) | (with_reducible exact heap_alloc_new _ _) | (with_reducible refine heap_old ?_) | (with_reducible refine heap_drew ?_) | ((with_reducible refine heap_other ?_ ?_); rotate_left; focus (first | (simp; done) | (simp; omega) | omega))))
    have e0 := cell_blk (i := 0) hB
    have e1 := cell_blk (i := 1) hB
    have e2 := cell_blk (i := 2) hB
    have e3 := cell_blk (i := 3) hB
    have e4 := cell_blk (i := 4) hB
    have e5 := cell_blk (i := 5) hB
    have e6 := cell_blk (i := 6) hB
    have ef0 := free_blk (i := 0) hB
    have ef1 := free_blk (i := 1) hB
    have ef2 := free_blk (i := 2) hB
    have ef3 := free_blk (i := 3) hB
    have ef4 := free_blk (i := 4) hB
    have ef5 := free_blk (i := 5) hB
    have ef6 := free_blk (i := 6) hB
    simp at e0 e1 e2 e3 e4 e5 e6
    have GG := Lib.hid (Goes.trans (w := w) (E := E) (s := .ok p) (d := d) (by repeat (first | (with_reducible exact GG.out) | (with_reducible refine Goes.alloc ?_ _) | (with_reducible refine Goes.drew ?_) | ((with_reducible refine Goes.store ?_ HE.out ?_ _); rotate_left; focus (first | (simp; done) | (simp; omega) | omega)))) g2)
    have HR := Lib.hid (And.intro hx hr)
    clear hx hr g2 hB
    go_wp2
    refine bodyPost_ret (v := .agg #[.int .u8 x.op, .int .i64 x.n, .int .u8 x.side, .int .u8 x.sel.side, .int .u8 x.sel.zone, .int .u8 x.sel.kind, .slice va vn vc]) (by simp [results, Tryz.results42, go_sem, e0, e1, e2, e3, e4, e5, e6]) rfl ?_
    exact ⟨x, va, vn, vc, s2, rfl, frames_above (ExAt.frames k) HR.out.1 (by repeat (first | (with_reducible exact Above.refl _ _) | (with_reducible refine Above.alloc ?_ _) | (with_reducible refine Above.drew ?_) | ((with_reducible refine Above.setCell ?_ ?_ _); rotate_left; focus (first | (simp; done) | (simp; omega) | omega)))) (by omega), res_expr hpe.out HR.out.2, (by repeat (first | (with_reducible exact GG.out) | (with_reducible refine Goes.alloc ?_ _) | (with_reducible refine Goes.drew ?_) | ((with_reducible refine Goes.store ?_ HE.out ?_ _); rotate_left; focus (first | (simp; done) | (simp; omega) | omega))))⟩
  · have hne := str_ne_l ht1
    rcases sees_or h ⟨#[108, 105, 102, 101]⟩ (by decide) with ⟨p, rfl, hp, ht⟩ | ht2
    · have hpe : Hid (∀ q, RS.ok p = .ok q → pExpr E.ts k q = (fun q => (pOne E.ts sidesW).map (fun s => Ex.mk 1 0 s .zero []) (q + 1)) q) := fun q hq => by cases hq; rw [pExpr_at, pExprBy, if_neg (show ¬ (tk E.ts p).text = ⟨#[40]⟩ from ht1), if_pos ht]
      have hsk : Hid (∀ W, Rd W E (.ok p) d → _) := fun W hW => skip_yes E p d W ⟨#[108, 105, 102, 101]⟩ hW hp ht
      clear h hp ht ht1
      go_enter Tryz.func42, Tryz.ntmps42
      go_wp2_with fail
      refine (HX.out _ (Goes.rd (w := w) (by repeat (first | (with_reducible exact GG.out) | (with_reducible refine Goes.alloc ?_ _) | (with_reducible refine Goes.drew ?_) | ((with_reducible refine Goes.store ?_ HE.out ?_ _); rotate_left; focus (first | (simp; done) | (simp; omega) | omega)))))).mono ?_
      rintro e w1 ⟨rfl, b1⟩
      have HB : Hid (w1.heap[w.heap.size]? = some (.cells #[.int .u8 0, .int .i64 0, .int .u8 0, .int .u8 0, .int .u8 0, .int .u8 0, .slice none 0 0] 46 (0, 0))) := by refine (b1.block _ (by simp)).trans ?_; exact (by repeat (first | (with_reducible exact HB.out) | (with_reducible exact heap_alloc_new _ _) | (with_reducible refine heap_old ?_) | (with_reducible refine heap_drew ?_) | ((with_reducible refine heap_other ?_ ?_); rotate_left; focus (first | (simp; done) | (simp; omega) | omega))))
      have GG := Lib.hid (Goes.below (w := w) (E := E) (s := .ok p) (d := d) (by repeat (first | (with_reducible exact GG.out) | (with_reducible refine Goes.alloc ?_ _) | (with_reducible refine Goes.drew ?_) | ((with_reducible refine Goes.store ?_ HE.out ?_ _); rotate_left; focus (first | (simp; done) | (simp; omega) | omega)))) b1)
      have sz1 : w.heap.size < w1.heap.size := heap_lt HB.out
      generalize E.tok (.ok p) = t at *
      obtain ⟨kd, tx, l, c⟩ := t
      simp only [] at hne
      have hf1 := tokf1 kd tx l c
      clear b1
      go_wp2_with fail
      refine (hsk.out _ (Goes.rd (w := w) (by repeat (first | (with_reducible exact GG.out) | (with_reducible refine Goes.alloc ?_ _) | (with_reducible refine Goes.drew ?_) | ((with_reducible refine Goes.store ?_ HE.out ?_ _); rotate_left; focus (first | (simp; done) | (simp; omega) | omega)))))).mono ?_
      rintro e w2 ⟨rfl, g2⟩
      have HB : Hid (w2.heap[w.heap.size]? = some (.cells #[.int .u8 0, .int .i64 0, .int .u8 0, .int .u8 0, .int .u8 0, .int .u8 0, .slice none 0 0] 46 (0, 0))) := by refine g2.kept.heap (by omega) ?_; exact (by repeat (first | (with_reducible exact HB.out) | (with_reducible exact heap_alloc_new _ _) | (with_reducible refine heap_old ?_) | (with_reducible refine heap_drew ?_) | ((with_reducible refine heap_other ?_ ?_); rotate_left; focus (first | (simp; done) | (simp; omega) | omega))))
      have GG := Lib.hid (Goes.trans (w := w) (E := E) (s := .ok p) (d := d) (by repeat (first | (with_reducible exact GG.out) | (with_reducible refine Goes.alloc ?_ _) | (with_reducible refine Goes.drew ?_) | ((with_reducible refine Goes.store ?_ HE.out ?_ _); rotate_left; focus (first | (simp; done) | (simp; omega) | omega)))) g2)
      have sz2 : w.heap.size < w2.heap.size := heap_lt HB.out
      clear g2
      go_wp2_with fail
      refine (side_any E _ d _ (Goes.rd (w := w) (by repeat (first | (with_reducible exact GG.out) | (with_reducible refine Goes.alloc ?_ _) | (with_reducible refine Goes.drew ?_) | ((with_reducible refine Goes.store ?_ HE.out ?_ _); rotate_left; focus (first | (simp; done) | (simp; omega) | omega)))))).mono ?_
      rintro e w3 ⟨k3, s3, rfl, r3, l3, g3⟩
      have hB : w3.heap[w.heap.size]? = some (.cells #[.int .u8 0, .int .i64 0, .int .u8 0, .int .u8 0, .int .u8 0, .int .u8 0, .slice none 0 0] 46 (0, 0)) := by refine g3.kept.heap (by omega) ?_; exact (by repeat (first | (with_reducible exact HB.out) | (with_reducible exact heap_alloc_new _ _) | (with_reducible refine heap_old ?_) | (with_reducible refine heap_drew ?_) | ((with_reducible refine heap_other ?_ ?_); rotate_left; focus (first | (simp; done) | (simp; omega) | omega))))
      have e0 := cell_blk (i := 0) hB
      have e1 := cell_blk (i := 1) hB
      have e2 := cell_blk (i := 2) hB
      have e3 := cell_blk (i := 3) hB
      have e4 := cell_blk (i := 4) hB
      have e5 := cell_blk (i := 5) hB
      have e6 := cell_blk (i := 6) hB
      have ef0 := free_blk (i := 0) hB
      have ef1 := free_blk (i := 1) hB
      have ef2 := free_blk (i := 2) hB
      have ef3 := free_blk (i := 3) hB
      have ef4 := free_blk (i := 4) hB
      have ef5 := free_blk (i := 5) hB
      have ef6 := free_blk (i := 6) hB
      simp at e0 e1 e2 e3 e4 e5 e6
      have GG := Lib.hid (Goes.trans (w := w) (E := E) (s := .ok (p + 1)) (d := d) (by repeat (first | (with_reducible exact GG.out) | (with_reducible refine Goes.alloc ?_ _) | (with_reducible refine Goes.drew ?_) | ((with_reducible refine Goes.store ?_ HE.out ?_ _); rotate_left; focus (first | (simp; done) | (simp; omega) | omega)))) g3)
      have HR := Lib.hid r3
      clear r3 l3 g3 hB
      go_wp2
      refine bodyPost_ret (v := .agg #[.int .u8 1, .int .i64 0, .int .u8 k3, .int .u8 0, .int .u8 0, .int .u8 0, .slice none 0 0]) (by simp [results, Tryz.results42, go_sem, e0, e1, e2, e3, e4, e5, e6]) rfl ?_
      exact ⟨.mk 1 0 k3 .zero [], _, _, _, s3, rfl, ExAt.at_leaf _ _ _ _ _ _ _, res_expr hpe.out (Res.map (s := .ok (p + 1)) (fun s => Ex.mk 1 0 s .zero []) HR.out), (by repeat (first | (with_reducible exact GG.out) | (with_reducible refine Goes.alloc ?_ _) | (with_reducible refine Goes.drew ?_) | ((with_reducible refine Goes.store ?_ HE.out ?_ _); rotate_left; focus (first | (simp; done) | (simp; omega) | omega))))⟩
    · rcases sees_or h ⟨#[99, 111, 117, 110, 116]⟩ (by decide) with ⟨p, rfl, hp, ht⟩ | ht3
      · have hpe : Hid (∀ q, RS.ok p = .ok q → pExpr E.ts k q = (fun q => (pSel E.ts).map (fun s => Ex.mk 2 0 0 s []) (q + 1)) q) := fun q hq => by cases hq; rw [pExpr_at, pExprBy, if_neg (show ¬ (tk E.ts p).text = ⟨#[40]⟩ from ht1), if_neg (show ¬ (tk E.ts p).text = ⟨#[108, 105, 102, 101]⟩ from ht2), if_pos ht]
        have hsn : Hid (∀ W, Rd W E (.ok p) d → _) := fun W hW => skip_no E (.ok p) d W ⟨#[108, 105, 102, 101]⟩ hW ht2
        have hsk : Hid (∀ W, Rd W E (.ok p) d → _) := fun W hW => skip_yes E p d W ⟨#[99, 111, 117, 110, 116]⟩ hW hp ht
        clear h hp ht ht1 ht2
        go_enter Tryz.func42, Tryz.ntmps42
        go_wp2_with fail
        refine (HX.out _ (Goes.rd (w := w) (by repeat (first | (with_reducible exact GG.out) | (with_reducible refine Goes.alloc ?_ _) | (with_reducible refine Goes.drew ?_) | ((with_reducible refine Goes.store ?_ HE.out ?_ _); rotate_left; focus (first | (simp; done) | (simp; omega) | omega)))))).mono ?_
        rintro e w1 ⟨rfl, b1⟩
        have HB : Hid (w1.heap[w.heap.size]? = some (.cells #[.int .u8 0, .int .i64 0, .int .u8 0, .int .u8 0, .int .u8 0, .int .u8 0, .slice none 0 0] 46 (0, 0))) := by refine (b1.block _ (by simp)).trans ?_; exact (by repeat (first | (with_reducible exact HB.out) | (with_reducible exact heap_alloc_new _ _) | (with_reducible refine heap_old ?_) | (with_reducible refine heap_drew ?_) | ((with_reducible refine heap_other ?_ ?_); rotate_left; focus (first | (simp; done) | (simp; omega) | omega))))
        have GG := Lib.hid (Goes.below (w := w) (E := E) (s := .ok p) (d := d) (by repeat (first | (with_reducible exact GG.out) | (with_reducible refine Goes.alloc ?_ _) | (with_reducible refine Goes.drew ?_) | ((with_reducible refine Goes.store ?_ HE.out ?_ _); rotate_left; focus (first | (simp; done) | (simp; omega) | omega)))) b1)
        have sz1 : w.heap.size < w1.heap.size := heap_lt HB.out
        generalize E.tok (.ok p) = t at *
        obtain ⟨kd, tx, l, c⟩ := t
        simp only [] at hne
        have hf1 := tokf1 kd tx l c
        clear b1
        go_wp2_with fail
        refine (hsn.out _ (Goes.rd (w := w) (by repeat (first | (with_reducible exact GG.out) | (with_reducible refine Goes.alloc ?_ _) | (with_reducible refine Goes.drew ?_) | ((with_reducible refine Goes.store ?_ HE.out ?_ _); rotate_left; focus (first | (simp; done) | (simp; omega) | omega)))))).mono ?_
        rintro e w2 ⟨rfl, b2⟩
        have HB : Hid (w2.heap[w.heap.size]? = some (.cells #[.int .u8 0, .int .i64 0, .int .u8 0, .int .u8 0, .int .u8 0, .int .u8 0, .slice none 0 0] 46 (0, 0))) := by refine (b2.block _ (by omega)).trans ?_; exact (by repeat (first | (with_reducible exact HB.out) | (with_reducible exact heap_alloc_new _ _) | (with_reducible refine heap_old ?_) | (with_reducible refine heap_drew ?_) | ((with_reducible refine heap_other ?_ ?_); rotate_left; focus (first | (simp; done) | (simp; omega) | omega))))
        have GG := Lib.hid (Goes.below (w := w) (E := E) (s := .ok p) (d := d) (by repeat (first | (with_reducible exact GG.out) | (with_reducible refine Goes.alloc ?_ _) | (with_reducible refine Goes.drew ?_) | ((with_reducible refine Goes.store ?_ HE.out ?_ _); rotate_left; focus (first | (simp; done) | (simp; omega) | omega)))) b2)
        have sz2 : w.heap.size < w2.heap.size := heap_lt HB.out
        clear b2
        go_wp2_with fail
        refine (hsk.out _ (Goes.rd (w := w) (by repeat (first | (with_reducible exact GG.out) | (with_reducible refine Goes.alloc ?_ _) | (with_reducible refine Goes.drew ?_) | ((with_reducible refine Goes.store ?_ HE.out ?_ _); rotate_left; focus (first | (simp; done) | (simp; omega) | omega)))))).mono ?_
        rintro e w3 ⟨rfl, g3⟩
        have HB : Hid (w3.heap[w.heap.size]? = some (.cells #[.int .u8 0, .int .i64 0, .int .u8 0, .int .u8 0, .int .u8 0, .int .u8 0, .slice none 0 0] 46 (0, 0))) := by refine g3.kept.heap (by omega) ?_; exact (by repeat (first | (with_reducible exact HB.out) | (with_reducible exact heap_alloc_new _ _) | (with_reducible refine heap_old ?_) | (with_reducible refine heap_drew ?_) | ((with_reducible refine heap_other ?_ ?_); rotate_left; focus (first | (simp; done) | (simp; omega) | omega))))
        have GG := Lib.hid (Goes.trans (w := w) (E := E) (s := .ok p) (d := d) (by repeat (first | (with_reducible exact GG.out) | (with_reducible refine Goes.alloc ?_ _) | (with_reducible refine Goes.drew ?_) | ((with_reducible refine Goes.store ?_ HE.out ?_ _); rotate_left; focus (first | (simp; done) | (simp; omega) | omega)))) g3)
        have sz3 : w.heap.size < w3.heap.size := heap_lt HB.out
        clear g3
        go_wp2_with fail
        refine (sel_any E _ d _ (Goes.rd (w := w) (by repeat (first | (with_reducible exact GG.out) | (with_reducible refine Goes.alloc ?_ _) | (with_reducible refine Goes.drew ?_) | ((with_reducible refine Goes.store ?_ HE.out ?_ _); rotate_left; focus (first | (simp; done) | (simp; omega) | omega)))))).mono ?_
        rintro e w4 ⟨x4, s4, rfl, r4, g4⟩
        have hB : w4.heap[w.heap.size]? = some (.cells #[.int .u8 0, .int .i64 0, .int .u8 0, .int .u8 0, .int .u8 0, .int .u8 0, .slice none 0 0] 46 (0, 0)) := by refine g4.kept.heap (by omega) ?_; exact (by repeat (first | (with_reducible exact HB.out) | (with_reducible exact heap_alloc_new _ _) | (with_reducible refine heap_old ?_) | (with_reducible refine heap_drew ?_) | ((with_reducible refine heap_other ?_ ?_); rotate_left; focus (first | (simp; done) | (simp; omega) | omega))))
        have e0 := cell_blk (i := 0) hB
        have e1 := cell_blk (i := 1) hB
        have e2 := cell_blk (i := 2) hB
        have e3 := cell_blk (i := 3) hB
        have e4 := cell_blk (i := 4) hB
        have e5 := cell_blk (i := 5) hB
        have e6 := cell_blk (i := 6) hB
        have ef0 := free_blk (i := 0) hB
        have ef1 := free_blk (i := 1) hB
        have ef2 := free_blk (i := 2) hB
        have ef3 := free_blk (i := 3) hB
        have ef4 := free_blk (i := 4) hB
        have ef5 := free_blk (i := 5) hB
        have ef6 := free_blk (i := 6) hB
        simp at e0 e1 e2 e3 e4 e5 e6
        have GG := Lib.hid (Goes.trans (w := w) (E := E) (s := .ok (p + 1)) (d := d) (by repeat (first | (with_reducible exact GG.out) | (with_reducible refine Goes.alloc ?_ _) | (with_reducible refine Goes.drew ?_) | ((with_reducible refine Goes.store ?_ HE.out ?_ _); rotate_left; focus (first | (simp; done) | (simp; omega) | omega)))) g4)
        have HR := Lib.hid r4
        clear r4 g4 hB
        go_wp2
        refine bodyPost_ret (v := .agg #[.int .u8 2, .int .i64 0, .int .u8 0, .int .u8 x4.side, .int .u8 x4.zone, .int .u8 x4.kind, .slice none 0 0]) (by simp [results, Tryz.results42, go_sem, e0, e1, e2, e3, e4, e5, e6]) rfl ?_
        exact ⟨.mk 2 0 0 x4 [], _, _, _, s4, rfl, ExAt.at_leaf _ _ _ _ _ _ _, res_expr hpe.out (Res.map (s := .ok (p + 1)) (fun s => Ex.mk 2 0 0 s []) HR.out), (by repeat (first | (with_reducible exact GG.out) | (with_reducible refine Goes.alloc ?_ _) | (with_reducible refine Goes.drew ?_) | ((with_reducible refine Goes.store ?_ HE.out ?_ _); rotate_left; focus (first | (simp; done) | (simp; omega) | omega))))⟩
      · rcases sees_or h ⟨#[112, 111, 119, 101, 114]⟩ (by decide) with ⟨p, rfl, hp, ht⟩ | ht4
        · have hpe : Hid (∀ q, RS.ok p = .ok q → pExpr E.ts k q = (fun q => .ok (.mk 3 0 0 .zero [], q + 1)) q) := fun q hq => by cases hq; rw [pExpr_at, pExprBy, if_neg (show ¬ (tk E.ts p).text = ⟨#[40]⟩ from ht1), if_neg (show ¬ (tk E.ts p).text = ⟨#[108, 105, 102, 101]⟩ from ht2), if_neg (show ¬ (tk E.ts p).text = ⟨#[99, 111, 117, 110, 116]⟩ from ht3), if_pos ht]
          have hsn : Hid (∀ W, Rd W E (.ok p) d → _) := fun W hW => skip_no E (.ok p) d W ⟨#[108, 105, 102, 101]⟩ hW ht2
          have hsn2 : Hid (∀ W, Rd W E (.ok p) d → _) := fun W hW => skip_no E (.ok p) d W ⟨#[99, 111, 117, 110, 116]⟩ hW ht3
          have hsk : Hid (∀ W, Rd W E (.ok p) d → _) := fun W hW => skip_yes E p d W ⟨#[112, 111, 119, 101, 114]⟩ hW hp ht
          clear h hp ht ht1 ht2 ht3
          go_enter Tryz.func42, Tryz.ntmps42
          go_wp2_with fail
          refine (HX.out _ (Goes.rd (w := w) (by repeat (first | (with_reducible exact GG.out) | (with_reducible refine Goes.alloc ?_ _) | (with_reducible refine Goes.drew ?_) | ((with_reducible refine Goes.store ?_ HE.out ?_ _); rotate_left; focus (first | (simp; done) | (simp; omega) | omega)))))).mono ?_
          rintro e w1 ⟨rfl, b1⟩
          have HB : Hid (w1.heap[w.heap.size]? = some (.cells #[.int .u8 0, .int .i64 0, .int .u8 0, .int .u8 0, .int .u8 0, .int .u8 0, .slice none 0 0] 46 (0, 0))) := by refine (b1.block _ (by simp)).trans ?_; exact (by repeat (first | (with_reducible exact HB.out) | (with_reducible exact heap_alloc_new _ _) | (with_reducible refine heap_old ?_) | (with_reducible refine heap_drew ?_) | ((with_reducible refine heap_other ?_ ?_); rotate_left; focus (first | (simp; done) | (simp; omega) | omega))))
          have GG := Lib.hid (Goes.below (w := w) (E := E) (s := .ok p) (d := d) (by repeat (first | (with_reducible exact GG.out) | (with_reducible refine Goes.alloc ?_ _) | (with_reducible refine Goes.drew ?_) | ((with_reducible refine Goes.store ?_ HE.out ?_ _); rotate_left; focus (first | (simp; done) | (simp; omega) | omega)))) b1)
          have sz1 : w.heap.size < w1.heap.size := heap_lt HB.out
          generalize E.tok (.ok p) = t at *
          obtain ⟨kd, tx, l, c⟩ := t
          simp only [] at hne
          have hf1 := tokf1 kd tx l c
          clear b1
          go_wp2_with fail
          refine (hsn.out _ (Goes.rd (w := w) (by repeat (first | (with_reducible exact GG.out) | (with_reducible refine Goes.alloc ?_ _) | (with_reducible refine Goes.drew ?_) | ((with_reducible refine Goes.store ?_ HE.out ?_ _); rotate_left; focus (first | (simp; done) | (simp; omega) | omega)))))).mono ?_
          rintro e w2 ⟨rfl, b2⟩
          have HB : Hid (w2.heap[w.heap.size]? = some (.cells #[.int .u8 0, .int .i64 0, .int .u8 0, .int .u8 0, .int .u8 0, .int .u8 0, .slice none 0 0] 46 (0, 0))) := by refine (b2.block _ (by omega)).trans ?_; exact (by repeat (first | (with_reducible exact HB.out) | (with_reducible exact heap_alloc_new _ _) | (with_reducible refine heap_old ?_) | (with_reducible refine heap_drew ?_) | ((with_reducible refine heap_other ?_ ?_); rotate_left; focus (first | (simp; done) | (simp; omega) | omega))))
          have GG := Lib.hid (Goes.below (w := w) (E := E) (s := .ok p) (d := d) (by repeat (first | (with_reducible exact GG.out) | (with_reducible refine Goes.alloc ?_ _) | (with_reducible refine Goes.drew ?_) | ((with_reducible refine Goes.store ?_ HE.out ?_ _); rotate_left; focus (first | (simp; done) | (simp; omega) | omega)))) b2)
          have sz2 : w.heap.size < w2.heap.size := heap_lt HB.out
          clear b2
          go_wp2_with fail
          refine (hsn2.out _ (Goes.rd (w := w) (by repeat (first | (with_reducible exact GG.out) | (with_reducible refine Goes.alloc ?_ _) | (with_reducible refine Goes.drew ?_) | ((with_reducible refine Goes.store ?_ HE.out ?_ _); rotate_left; focus (first | (simp; done) | (simp; omega) | omega)))))).mono ?_
          rintro e w3 ⟨rfl, b3⟩
          have HB : Hid (w3.heap[w.heap.size]? = some (.cells #[.int .u8 0, .int .i64 0, .int .u8 0, .int .u8 0, .int .u8 0, .int .u8 0, .slice none 0 0] 46 (0, 0))) := by refine (b3.block _ (by omega)).trans ?_; exact (by repeat (first | (with_reducible exact HB.out) | (with_reducible exact heap_alloc_new _ _) | (with_reducible refine heap_old ?_) | (with_reducible refine heap_drew ?_) | ((with_reducible refine heap_other ?_ ?_); rotate_left; focus (first | (simp; done) | (simp; omega) | omega))))
          have GG := Lib.hid (Goes.below (w := w) (E := E) (s := .ok p) (d := d) (by repeat (first | (with_reducible exact GG.out) | (with_reducible refine Goes.alloc ?_ _) | (with_reducible refine Goes.drew ?_) | ((with_reducible refine Goes.store ?_ HE.out ?_ _); rotate_left; focus (first | (simp; done) | (simp; omega) | omega)))) b3)
          have sz3 : w.heap.size < w3.heap.size := heap_lt HB.out
          clear b3
          go_wp2_with fail
          refine (hsk.out _ (Goes.rd (w := w) (by repeat (first | (with_reducible exact GG.out) | (with_reducible refine Goes.alloc ?_ _) | (with_reducible refine Goes.drew ?_) | ((with_reducible refine Goes.store ?_ HE.out ?_ _); rotate_left; focus (first | (simp; done) | (simp; omega) | omega)))))).mono ?_
          rintro e w4 ⟨rfl, g4⟩
          have hB : w4.heap[w.heap.size]? = some (.cells #[.int .u8 0, .int .i64 0, .int .u8 0, .int .u8 0, .int .u8 0, .int .u8 0, .slice none 0 0] 46 (0, 0)) := by refine g4.kept.heap (by omega) ?_; exact (by repeat (first | (with_reducible exact HB.out) | (with_reducible exact heap_alloc_new _ _) | (with_reducible refine heap_old ?_) | (with_reducible refine heap_drew ?_) | ((with_reducible refine heap_other ?_ ?_); rotate_left; focus (first | (simp; done) | (simp; omega) | omega))))
          have e0 := cell_blk (i := 0) hB
          have e1 := cell_blk (i := 1) hB
          have e2 := cell_blk (i := 2) hB
          have e3 := cell_blk (i := 3) hB
          have e4 := cell_blk (i := 4) hB
          have e5 := cell_blk (i := 5) hB
          have e6 := cell_blk (i := 6) hB
          have ef0 := free_blk (i := 0) hB
          have ef1 := free_blk (i := 1) hB
          have ef2 := free_blk (i := 2) hB
          have ef3 := free_blk (i := 3) hB
          have ef4 := free_blk (i := 4) hB
          have ef5 := free_blk (i := 5) hB
          have ef6 := free_blk (i := 6) hB
          simp at e0 e1 e2 e3 e4 e5 e6
          have GG := Lib.hid (Goes.trans (w := w) (E := E) (s := .ok p) (d := d) (by repeat (first | (with_reducible exact GG.out) | (with_reducible refine Goes.alloc ?_ _) | (with_reducible refine Goes.drew ?_) | ((with_reducible refine Goes.store ?_ HE.out ?_ _); rotate_left; focus (first | (simp; done) | (simp; omega) | omega)))) g4)
          clear g4 hB
          go_wp2
          refine bodyPost_ret (v := .agg #[.int .u8 3, .int .i64 0, .int .u8 0, .int .u8 0, .int .u8 0, .int .u8 0, .slice none 0 0]) (by simp [results, Tryz.results42, go_sem, e0, e1, e2, e3, e4, e5, e6]) rfl ?_
          exact ⟨.mk 3 0 0 .zero [], _, _, _, .ok (p + 1), rfl, ExAt.at_leaf _ _ _ _ _ _ _, res_expr hpe.out (Res.of_ok rfl), (by repeat (first | (with_reducible exact GG.out) | (with_reducible refine Goes.alloc ?_ _) | (with_reducible refine Goes.drew ?_) | ((with_reducible refine Goes.store ?_ HE.out ?_ _); rotate_left; focus (first | (simp; done) | (simp; omega) | omega))))⟩
        · have hpe : Hid (∀ q, s = .ok q → pExpr E.ts k q = (pNum E.ts).map (fun n => Ex.mk 0 n 0 .zero []) q) := fun q hq => by
            subst hq; rw [pExpr_at, pExprBy, if_neg (show ¬ (tk E.ts q).text = ⟨#[40]⟩ from ht1), if_neg (show ¬ (tk E.ts q).text = ⟨#[108, 105, 102, 101]⟩ from ht2), if_neg (show ¬ (tk E.ts q).text = ⟨#[99, 111, 117, 110, 116]⟩ from ht3), if_neg (show ¬ (tk E.ts q).text = ⟨#[112, 111, 119, 101, 114]⟩ from ht4)]
          have hsn : Hid (∀ W, Rd W E s d → _) := fun W hW => skip_no E s d W ⟨#[108, 105, 102, 101]⟩ hW ht2
          have hsn2 : Hid (∀ W, Rd W E s d → _) := fun W hW => skip_no E s d W ⟨#[99, 111, 117, 110, 116]⟩ hW ht3
          have hsn3 : Hid (∀ W, Rd W E s d → _) := fun W hW => skip_no E s d W ⟨#[112, 111, 119, 101, 114]⟩ hW ht4
          clear h ht1 ht2 ht3 ht4
          go_enter Tryz.func42, Tryz.ntmps42
          go_wp2_with fail
          refine (HX.out _ (Goes.rd (w := w) (by repeat (first | (with_reducible exact GG.out) | (with_reducible refine Goes.alloc ?_ _) | (with_reducible refine Goes.drew ?_) | ((with_reducible refine Goes.store ?_ HE.out ?_ _); rotate_left; focus (first | (simp; done) | (simp; omega) | omega)))))).mono ?_
          rintro e w1 ⟨rfl, b1⟩
          have HB : Hid (w1.heap[w.heap.size]? = some (.cells #[.int .u8 0, .int .i64 0, .int .u8 0, .int .u8 0, .int .u8 0, .int .u8 0, .slice none 0 0] 46 (0, 0))) := by refine (b1.block _ (by simp)).trans ?_; exact (by repeat (first | (with_reducible exact HB.out) | (with_reducible exact heap_alloc_new _ _) | (with_reducible refine heap_old ?_) | (with_reducible refine heap_drew ?_) | ((with_reducible refine heap_other ?_ ?_); rotate_left; focus (first | (simp; done) | (simp; omega) | omega))))
          have GG := Lib.hid (Goes.below (w := w) (E := E) (s := s) (d := d) (by repeat (first | (with_reducible exact GG.out) | (with_reducible refine Goes.alloc ?_ _) | (with_reducible refine Goes.drew ?_) | ((with_reducible refine Goes.store ?_ HE.out ?_ _); rotate_left; focus (first | (simp; done) | (simp; omega) | omega)))) b1)
          have sz1 : w.heap.size < w1.heap.size := heap_lt HB.out
          generalize E.tok s = t at *
          obtain ⟨kd, tx, l, c⟩ := t
          simp only [] at hne
          have hf1 := tokf1 kd tx l c
          clear b1
          go_wp2_with fail
          refine (hsn.out _ (Goes.rd (w := w) (by repeat (first | (with_reducible exact GG.out) | (with_reducible refine Goes.alloc ?_ _) | (with_reducible refine Goes.drew ?_) | ((with_reducible refine Goes.store ?_ HE.out ?_ _); rotate_left; focus (first | (simp; done) | (simp; omega) | omega)))))).mono ?_
          rintro e w2 ⟨rfl, b2⟩
          have HB : Hid (w2.heap[w.heap.size]? = some (.cells #[.int .u8 0, .int .i64 0, .int .u8 0, .int .u8 0, .int .u8 0, .int .u8 0, .slice none 0 0] 46 (0, 0))) := by refine (b2.block _ (by omega)).trans ?_; exact (by repeat (first | (with_reducible exact HB.out) | (with_reducible exact heap_alloc_new _ _) | (with_reducible refine heap_old ?_) | (with_reducible refine heap_drew ?_) | ((with_reducible refine heap_other ?_ ?_); rotate_left; focus (first | (simp; done) | (simp; omega) | omega))))
          have GG := Lib.hid (Goes.below (w := w) (E := E) (s := s) (d := d) (by repeat (first | (with_reducible exact GG.out) | (with_reducible refine Goes.alloc ?_ _) | (with_reducible refine Goes.drew ?_) | ((with_reducible refine Goes.store ?_ HE.out ?_ _); rotate_left; focus (first | (simp; done) | (simp; omega) | omega)))) b2)
          have sz2 : w.heap.size < w2.heap.size := heap_lt HB.out
          clear b2
          go_wp2_with fail
          refine (hsn2.out _ (Goes.rd (w := w) (by repeat (first | (with_reducible exact GG.out) | (with_reducible refine Goes.alloc ?_ _) | (with_reducible refine Goes.drew ?_) | ((with_reducible refine Goes.store ?_ HE.out ?_ _); rotate_left; focus (first | (simp; done) | (simp; omega) | omega)))))).mono ?_
          rintro e w3 ⟨rfl, b3⟩
          have HB : Hid (w3.heap[w.heap.size]? = some (.cells #[.int .u8 0, .int .i64 0, .int .u8 0, .int .u8 0, .int .u8 0, .int .u8 0, .slice none 0 0] 46 (0, 0))) := by refine (b3.block _ (by omega)).trans ?_; exact (by repeat (first | (with_reducible exact HB.out) | (with_reducible exact heap_alloc_new _ _) | (with_reducible refine heap_old ?_) | (with_reducible refine heap_drew ?_) | ((with_reducible refine heap_other ?_ ?_); rotate_left; focus (first | (simp; done) | (simp; omega) | omega))))
          have GG := Lib.hid (Goes.below (w := w) (E := E) (s := s) (d := d) (by repeat (first | (with_reducible exact GG.out) | (with_reducible refine Goes.alloc ?_ _) | (with_reducible refine Goes.drew ?_) | ((with_reducible refine Goes.store ?_ HE.out ?_ _); rotate_left; focus (first | (simp; done) | (simp; omega) | omega)))) b3)
          have sz3 : w.heap.size < w3.heap.size := heap_lt HB.out
          clear b3
          go_wp2_with fail
          refine (hsn3.out _ (Goes.rd (w := w) (by repeat (first | (with_reducible exact GG.out) | (with_reducible refine Goes.alloc ?_ _) | (with_reducible refine Goes.drew ?_) | ((with_reducible refine Goes.store ?_ HE.out ?_ _); rotate_left; focus (first | (simp; done) | (simp; omega) | omega)))))).mono ?_
          rintro e w4 ⟨rfl, b4⟩
          have HB : Hid (w4.heap[w.heap.size]? = some (.cells #[.int .u8 0, .int .i64 0, .int .u8 0, .int .u8 0, .int .u8 0, .int .u8 0, .slice none 0 0] 46 (0, 0))) := by refine (b4.block _ (by omega)).trans ?_; exact (by repeat (first | (with_reducible exact HB.out) | (with_reducible exact heap_alloc_new _ _) | (with_reducible refine heap_old ?_) | (with_reducible refine heap_drew ?_) | ((with_reducible refine heap_other ?_ ?_); rotate_left; focus (first | (simp; done) | (simp; omega) | omega))))
          have GG := Lib.hid (Goes.below (w := w) (E := E) (s := s) (d := d) (by repeat (first | (with_reducible exact GG.out) | (with_reducible refine Goes.alloc ?_ _) | (with_reducible refine Goes.drew ?_) | ((with_reducible refine Goes.store ?_ HE.out ?_ _); rotate_left; focus (first | (simp; done) | (simp; omega) | omega)))) b4)
          have sz4 : w.heap.size < w4.heap.size := heap_lt HB.out
          clear b4
          go_wp2_with fail
          refine (number_any E s d _ (Goes.rd (w := w) (by repeat (first | (with_reducible exact GG.out) | (with_reducible refine Goes.alloc ?_ _) | (with_reducible refine Goes.drew ?_) | ((with_reducible refine Goes.store ?_ HE.out ?_ _); rotate_left; focus (first | (simp; done) | (simp; omega) | omega)))))).mono ?_
          rintro e w5 ⟨v5, s5, rfl, r5, g5⟩
          have hB : w5.heap[w.heap.size]? = some (.cells #[.int .u8 0, .int .i64 0, .int .u8 0, .int .u8 0, .int .u8 0, .int .u8 0, .slice none 0 0] 46 (0, 0)) := by refine g5.kept.heap (by omega) ?_; exact (by repeat (first | (with_reducible exact HB.out) | (with_reducible exact heap_alloc_new _ _) | (with_reducible refine heap_old ?_) | (with_reducible refine heap_drew ?_) | ((with_reducible refine heap_other ?_ ?_); rotate_left; focus (first | (simp; done) | (simp; omega) | omega))))
          have e0 := cell_blk (i := 0) hB
          have e1 := cell_blk (i := 1) hB
          have e2 := cell_blk (i := 2) hB
          have e3 := cell_blk (i := 3) hB
          have e4 := cell_blk (i := 4) hB
          have e5 := cell_blk (i := 5) hB
          have e6 := cell_blk (i := 6) hB
          have ef0 := free_blk (i := 0) hB
          have ef1 := free_blk (i := 1) hB
          have ef2 := free_blk (i := 2) hB
          have ef3 := free_blk (i := 3) hB
          have ef4 := free_blk (i := 4) hB
          have ef5 := free_blk (i := 5) hB
          have ef6 := free_blk (i := 6) hB
          simp at e0 e1 e2 e3 e4 e5 e6
          have GG := Lib.hid (Goes.trans (w := w) (E := E) (s := s) (d := d) (by repeat (first | (with_reducible exact GG.out) | (with_reducible refine Goes.alloc ?_ _) | (with_reducible refine Goes.drew ?_) | ((with_reducible refine Goes.store ?_ HE.out ?_ _); rotate_left; focus (first | (simp; done) | (simp; omega) | omega)))) g5)
          have HR := Lib.hid r5
          clear r5 g5 hB
          go_wp2
          refine bodyPost_ret (v := .agg #[.int .u8 0, .int .i64 v5, .int .u8 0, .int .u8 0, .int .u8 0, .int .u8 0, .slice none 0 0]) (by simp [results, Tryz.results42, go_sem, e0, e1, e2, e3, e4, e5, e6]) rfl ?_
          exact ⟨.mk 0 v5 0 .zero [], _, _, _, s5, rfl, ExAt.at_leaf _ _ _ _ _ _ _, res_expr hpe.out (Res.map _ HR.out), (by repeat (first | (with_reducible exact GG.out) | (with_reducible refine Goes.alloc ?_ _) | (with_reducible refine Goes.drew ?_) | ((with_reducible refine Goes.store ?_ HE.out ?_ _); rotate_left; focus (first | (simp; done) | (simp; omega) | omega))))⟩
end Go.Proofs.YtmhpopkbmnhkkaaGreatDoor
