import Derived.Test.YtmhpopkbmnhkkaaGreatDoorQParDo
/- Layer 2 (parse): a step is read; does one begin here? -/
namespace Go.Proofs.YtmhpopkbmnhkkaaGreatDoor
open Go.RowKit Go.Lib

theorem nil_neq : ∀ W : World, (binOp .neq 142 .nilFunc .nilFunc).run Tryz.prog W = .ok (.bool false) W := fun _ => by kernel_rfl
theorem func_neq (a : Fn) (b c : Array Value) : ∀ W : World, (binOp .neq 142 (.func a b c) .nilFunc).run Tryz.prog W = .ok (.bool true) W := fun _ => by kernel_rfl
set_option maxHeartbeats 1000000 in
set_option maxRecDepth 100000 in
theorem beginsStep_any (E : Env) (s : RS) (w : World) (k : Nat) (tx : ByteArray) (l c : Int) (h : Rd w E s 0) :
    Calls Tryz.prog 119 #[.pointer (some ⟨E.R, 0, none⟩), .agg #[.int .u8 k, .string tx, .int .i64 l, .int .i64 c]] w fun e w' => e = .returned (.bool (findW stepsW tx 0).isSome) ∧ Below w.heap.size w w' := by
  obtain ⟨-, c1, -, -, -, -⟩ := h.cells
  have hlt := h.lt
  have hm := h.env.map
  have hml := heap_lt hm
  have hlk : ∀ W : World, W.heap[E.M]? = some (.map (entriesOf E.A).toArray 11) → _ := fun W hW => look_run W E hW tx
  have HK := Lib.hid hlk
  have HM := Lib.hid hm
  clear h hm hlk
  have hl1 := HK.out ((w.alloc (.cells #[.int .u8 k, .string tx, .int .i64 l, .int .i64 c] 103)).drew) (by exact heap_old HM.out)
  have hl2 := HK.out (w.alloc (.cells #[.int .u8 k, .string tx, .int .i64 l, .int .i64 c] 103)) (by exact heap_old HM.out)
  have hl3 : ∀ n, _ := fun n => HK.out ((w.alloc (.cells #[.int .u8 k, .string tx, .int .i64 l, .int .i64 c] 103)).drewN n) (by exact heap_old HM.out)
  cases hf : findW stepsW tx 0 with
  | none =>
    simp only [hf] at hl1 hl2 hl3
    have hq := nil_neq
    clear hf
    go_enter Tryz.func119, Tryz.ntmps119
    go_wp2_with fail
    go_region
    go_wp2
    go_ret
    exact ⟨rfl, (by repeat (first | (with_reducible exact Below.refl _ _) | (with_reducible assumption) | ((with_reducible refine Below.setCell ?_ ?_ _); rotate_left; focus (simp; done)) | ((with_reducible refine Below.alloc ?_ ?_ _); rotate_left; focus (simp; done)) | (with_reducible refine Below.drew ?_)))⟩
  | some d =>
    have hv : ∃ a b c', stepV E.A d = .func a b c' := by unfold stepV; split <;> exact ⟨_, _, _, rfl⟩
    obtain ⟨va, vb, vc, hv⟩ := hv
    simp only [hf, hv] at hl1 hl2 hl3
    have hq := func_neq va vb vc
    clear hf hv
    go_enter Tryz.func119, Tryz.ntmps119
    go_wp2_with fail
    go_region
    go_wp2
    go_ret
    exact ⟨rfl, (by repeat (first | (with_reducible exact Below.refl _ _) | (with_reducible assumption) | ((with_reducible refine Below.setCell ?_ ?_ _); rotate_left; focus (simp; done)) | ((with_reducible refine Below.alloc ?_ ?_ _); rotate_left; focus (simp; done)) | (with_reducible refine Below.drew ?_)))⟩

theorem step_word {E : Env} {w : World} {s : RS} (h : Rd w E s 0) {d : Nat} (hf : findW stepsW (E.tok s).text 0 = some d) : ∃ p, s = .ok p ∧ p + 1 < E.n ∧ Res (pOne E.ts stepsW) (.ok p) d (.ok (p + 1)) := by
  have hne : (E.tok s).text ≠ ⟨#[]⟩ := by
    intro e
    rw [e, show findW stepsW ⟨#[]⟩ 0 = none from by decide] at hf
    cases hf
  rcases sees_or h (E.tok s).text hne with ⟨p, rfl, hp, -⟩ | ht
  · exact ⟨p, rfl, hp, Res.of_ok (by have hf' : findW stepsW (tk E.ts p).text 0 = some d := hf; simp [pOne, hf'])⟩
  · exact absurd rfl ht

set_option maxHeartbeats 4000000 in
set_option maxRecDepth 100000 in
theorem step_amount (E : Env) (p d : Nat) (w : World) (a dof : Nat) (hA : w.heap[a]? = some (.cells #[.int .u8 dof] 5 (0, 0))) (haR : a ≠ E.R) (hd : pStepBody E.ts d = (amountP E.ts dof)) (hv : stepV E.A d = .func (.func 152) #[] #[.pointer (some ⟨a, 0, none⟩)]) (hp : p + 1 < E.n) (hr : Res (pOne E.ts stepsW) (.ok p) d (.ok (p + 1))) (hf : findW stepsW (tk E.ts p).text 0 = some d) (h : Rd w E (.ok p) 0) :
    Calls Tryz.prog 120 #[.pointer (some ⟨E.R, 0, none⟩)] w (StEnds (pStep E.ts) E (.ok p) w) := by
  have HE := Lib.hid h.both
  have GG := Lib.hid (Goes.start h)
  obtain ⟨-, c1, -, -, -, -⟩ := h.cells
  have hlt := h.lt
  have HA := Lib.hid hA
  have HM := Lib.hid h.env.map
  have hmR := h.env.mR
  have hnext : Hid (∀ W, Rd W E (.ok p) 0 → _) := fun W hW => next_reads E (.ok p) 0 W hW
  have hpass : Hid (∀ W, Rd W E (.ok p) 0 → _) := fun W hW => pass_on E p 0 W hW hp
  have hlk : Hid (∀ W : World, W.heap[E.M]? = some (.map (entriesOf E.A).toArray 11) → (Instr.lookup 98 (.map (some E.M)) (.string (tk E.ts p).text) false).run Tryz.prog W = .ok (.func (.func 152) #[] #[.pointer (some ⟨a, 0, none⟩)]) W) := fun W hW => by
    rw [look_run W E hW, hf]; exact congrArg (fun v => Result.ok v W) hv
  have HD := Lib.hid hd
  have HR := Lib.hid hr
  simp only [Env.tok, RS.pos] at hnext
  generalize tk E.ts p = t at *
  obtain ⟨kd, tx, l, c⟩ := t
  have hf1 := tokf1 kd tx l c
  clear h hd hp hr hf hv hA
  go_enter Tryz.func120, Tryz.ntmps120
  go_wp2_with fail
  go_region_held3 (fun w' => w'.cell? ⟨E.R, 1, none⟩ = some (.map (some E.M)))
    (first | go_keep | (with_reducible exact c1'))
    (first
      | (go_at_call 59; refine (hnext.out _ (Goes.rd (w := w) (by repeat (first | (with_reducible exact GG.out) | (with_reducible refine Goes.alloc ?_ _) | (with_reducible refine Goes.drew ?_) | ((with_reducible refine Goes.store ?_ HE.out ?_ _); rotate_left; focus (first | (simp; done) | (simp; omega) | omega)))))).mono ?_; rintro e w1 ⟨rfl, b1⟩;
         have G1 := Lib.hid (Goes.below (w := w) (E := E) (s := .ok p) (d := 0) (by repeat (first | (with_reducible exact GG.out) | (with_reducible refine Goes.alloc ?_ _) | (with_reducible refine Goes.drew ?_) | ((with_reducible refine Goes.store ?_ HE.out ?_ _); rotate_left; focus (first | (simp; done) | (simp; omega) | omega)))) b1);
         have c1' : w1.cell? ⟨E.R, 1, none⟩ = some (.map (some E.M)) := (G1.out.rd.cells).2.1;
         have hM1 : w1.heap[E.M]? = some (.map (entriesOf E.A).toArray 11) := G1.out.rd.env.map;
         have hl1 := hlk.out w1 hM1; have hbk1 : Hid (∀ i, i < w.heap.size → w1.heap[i]? = w.heap[i]?) := (fun i hi => (b1.block i (by simp; omega)).trans (Below.heap_alloc _ _ _ hi));
         have hB1 : Hid (w1.heap[w.heap.size]? = some (.cells #[.int .u8 0, .int .u8 0, .int .u8 0, .int .i64 0, .int .u8 0, .int .u8 0, .int .u8 0, .int .u8 0, .slice none 0 0, .bool false, .int .u8 0, .int .u8 0, .int .u8 0] 58 (0, 0))) := (by refine (b1.block _ (by simp)).trans ?_; exact (by repeat (first | (with_reducible exact HB.out) | (with_reducible exact heap_alloc_new _ _) | (with_reducible refine heap_old ?_) | (with_reducible refine heap_drew ?_) | ((with_reducible refine heap_other ?_ ?_); rotate_left; focus (first | (simp; done) | (simp; omega) | omega)))))))
  have HB := hB1
  have GG := G1
  clear G1 hB1 hl1
  go_wp2_with fail
  refine (hpass.out _ (Goes.rd (w := w) (by repeat (first | (with_reducible exact GG.out) | (with_reducible refine Goes.alloc ?_ _) | (with_reducible refine Goes.drew ?_) | ((with_reducible refine Goes.store ?_ HE.out ?_ _); rotate_left; focus (first | (simp; done) | (simp; omega) | omega)))))).mono ?_
  rintro e w2 ⟨rfl, g2⟩
  have HB : Hid (w2.heap[w.heap.size]? = some (.cells #[.int .u8 0, .int .u8 0, .int .u8 0, .int .i64 0, .int .u8 0, .int .u8 0, .int .u8 0, .int .u8 0, .slice none 0 0, .bool false, .int .u8 0, .int .u8 0, .int .u8 0] 58 (0, 0))) := by refine g2.kept.heap (by omega) ?_; exact (by repeat (first | (with_reducible exact HB.out) | (with_reducible exact heap_alloc_new _ _) | (with_reducible refine heap_old ?_) | (with_reducible refine heap_drew ?_) | ((with_reducible refine heap_other ?_ ?_); rotate_left; focus (first | (simp; done) | (simp; omega) | omega))))
  have GG := Lib.hid (Goes.trans (w := w) (E := E) (s := .ok p) (d := 0) (by repeat (first | (with_reducible exact GG.out) | (with_reducible refine Goes.alloc ?_ _) | (with_reducible refine Goes.drew ?_) | ((with_reducible refine Goes.store ?_ HE.out ?_ _); rotate_left; focus (first | (simp; done) | (simp; omega) | omega)))) g2)
  have sz2 : w.heap.size < w2.heap.size := heap_lt HB.out
  have HA := Lib.hid (g2.kept.heap haR ((hbk1.out a (heap_lt HA.out)).trans HA.out))
  clear g2
  go_wp2_with fail
  refine (amount_any E _ _ a dof HA.out haR (Goes.rd (w := w) (by repeat (first | (with_reducible exact GG.out) | (with_reducible refine Goes.alloc ?_ _) | (with_reducible refine Goes.drew ?_) | ((with_reducible refine Goes.store ?_ HE.out ?_ _); rotate_left; focus (first | (simp; done) | (simp; omega) | omega)))))).mono ?_
  rintro e w3 ⟨x, va, vn, vc, s3, rfl, hx, r3, g3⟩
  have HB : Hid (w3.heap[w.heap.size]? = some (.cells #[.int .u8 0, .int .u8 0, .int .u8 0, .int .i64 0, .int .u8 0, .int .u8 0, .int .u8 0, .int .u8 0, .slice none 0 0, .bool false, .int .u8 0, .int .u8 0, .int .u8 0] 58 (0, 0))) := by refine g3.kept.heap (by omega) ?_; exact (by repeat (first | (with_reducible exact HB.out) | (with_reducible exact heap_alloc_new _ _) | (with_reducible refine heap_old ?_) | (with_reducible refine heap_drew ?_) | ((with_reducible refine heap_other ?_ ?_); rotate_left; focus (first | (simp; done) | (simp; omega) | omega))))
  have GG := Lib.hid (Goes.trans (w := w) (E := E) (s := .ok (p + 1)) (d := 0) (by repeat (first | (with_reducible exact GG.out) | (with_reducible refine Goes.alloc ?_ _) | (with_reducible refine Goes.drew ?_) | ((with_reducible refine Goes.store ?_ HE.out ?_ _); rotate_left; focus (first | (simp; done) | (simp; omega) | omega)))) g3)
  have sz3 : w2.heap.size ≤ w3.heap.size := g3.kept.size
  have HS := Lib.hid (And.intro hx r3)
  clear hx r3 g3
  go_wp2_with fail
  refine (mark_any E s3 0 _ ⟨#[59]⟩ (by decide) (Goes.rd (w := w) (by repeat (first | (with_reducible exact GG.out) | (with_reducible refine Goes.alloc ?_ _) | (with_reducible refine Goes.drew ?_) | ((with_reducible refine Goes.store ?_ HE.out ?_ _); rotate_left; focus (first | (simp; done) | (simp; omega) | omega)))))).mono ?_
  rintro e w4 ⟨rfl, s4, r4, g4⟩
  have hB : w4.heap[w.heap.size]? = some (.cells #[.int .u8 0, .int .u8 0, .int .u8 0, .int .i64 0, .int .u8 0, .int .u8 0, .int .u8 0, .int .u8 0, .slice none 0 0, .bool false, .int .u8 0, .int .u8 0, .int .u8 0] 58 (0, 0)) := by refine g4.kept.heap (by omega) ?_; exact (by repeat (first | (with_reducible exact HB.out) | (with_reducible exact heap_alloc_new _ _) | (with_reducible refine heap_old ?_) | (with_reducible refine heap_drew ?_) | ((with_reducible refine heap_other ?_ ?_); rotate_left; focus (first | (simp; done) | (simp; omega) | omega))))
  have hX : w4.heap[w3.heap.size]? = some (.cells #[.int .u8 x.dof, .int .u8 x.side, .int .u8 (Ex.op x.n), .int .i64 (Ex.n x.n), .int .u8 (Ex.side x.n), .int .u8 (Ex.sel x.n).side, .int .u8 (Ex.sel x.n).zone, .int .u8 (Ex.sel x.n).kind, .slice va vn vc, .bool x.all, .int .u8 x.sel.side, .int .u8 x.sel.zone, .int .u8 x.sel.kind] 58 (0, 0)) := by refine g4.kept.heap (by omega) ?_; exact heap_alloc_new _ _
  have GG := Lib.hid (Goes.trans (w := w) (E := E) (s := s3) (d := 0) (by repeat (first | (with_reducible exact GG.out) | (with_reducible refine Goes.alloc ?_ _) | (with_reducible refine Goes.drew ?_) | ((with_reducible refine Goes.store ?_ HE.out ?_ _); rotate_left; focus (first | (simp; done) | (simp; omega) | omega)))) g4)
  have HX := Lib.hid (frames_above (w := w3) (w' := w4) (B := w2.heap.size) (B' := w2.heap.size) (ExAt.frames 5) HS.out.1 (((Above.refl _ _).alloc _).kept g4.kept (by omega)) (Nat.le_refl _))
  have R4 := Lib.hid r4
  have e0 := cell_blk (i := 0) hB
  have e1 := cell_blk (i := 1) hB
  have e2 := cell_blk (i := 2) hB
  have e3 := cell_blk (i := 3) hB
  have e4 := cell_blk (i := 4) hB
  have e5 := cell_blk (i := 5) hB
  have e6 := cell_blk (i := 6) hB
  have e7 := cell_blk (i := 7) hB
  have e8 := cell_blk (i := 8) hB
  have e9 := cell_blk (i := 9) hB
  have e10 := cell_blk (i := 10) hB
  have e11 := cell_blk (i := 11) hB
  have e12 := cell_blk (i := 12) hB
  have ef0 := free_blk (i := 0) hB
  have ef1 := free_blk (i := 1) hB
  have ef2 := free_blk (i := 2) hB
  have ef3 := free_blk (i := 3) hB
  have ef4 := free_blk (i := 4) hB
  have ef5 := free_blk (i := 5) hB
  have ef6 := free_blk (i := 6) hB
  have ef7 := free_blk (i := 7) hB
  have ef8 := free_blk (i := 8) hB
  have ef9 := free_blk (i := 9) hB
  have ef10 := free_blk (i := 10) hB
  have ef11 := free_blk (i := 11) hB
  have ef12 := free_blk (i := 12) hB
  simp at e0 e1 e2 e3 e4 e5 e6 e7 e8 e9 e10 e11 e12
  have cx0 := cell_blk (i := 0) hX
  have cx1 := cell_blk (i := 1) hX
  have cx2 := cell_blk (i := 2) hX
  have cx3 := cell_blk (i := 3) hX
  have cx4 := cell_blk (i := 4) hX
  have cx5 := cell_blk (i := 5) hX
  have cx6 := cell_blk (i := 6) hX
  have cx7 := cell_blk (i := 7) hX
  have cx8 := cell_blk (i := 8) hX
  have cx9 := cell_blk (i := 9) hX
  have cx10 := cell_blk (i := 10) hX
  have cx11 := cell_blk (i := 11) hX
  have cx12 := cell_blk (i := 12) hX
  have cxf0 := free_blk (i := 0) hX
  have cxf1 := free_blk (i := 1) hX
  have cxf2 := free_blk (i := 2) hX
  have cxf3 := free_blk (i := 3) hX
  have cxf4 := free_blk (i := 4) hX
  have cxf5 := free_blk (i := 5) hX
  have cxf6 := free_blk (i := 6) hX
  have cxf7 := free_blk (i := 7) hX
  have cxf8 := free_blk (i := 8) hX
  have cxf9 := free_blk (i := 9) hX
  have cxf10 := free_blk (i := 10) hX
  have cxf11 := free_blk (i := 11) hX
  have cxf12 := free_blk (i := 12) hX
  simp at cx0 cx1 cx2 cx3 cx4 cx5 cx6 cx7 cx8 cx9 cx10 cx11 cx12
  clear r4 g4 hB hX
  go_wp2
  refine bodyPost_ret (v := .agg #[.int .u8 x.dof, .int .u8 x.side, .int .u8 (Ex.op x.n), .int .i64 (Ex.n x.n), .int .u8 (Ex.side x.n), .int .u8 (Ex.sel x.n).side, .int .u8 (Ex.sel x.n).zone, .int .u8 (Ex.sel x.n).kind, .slice va vn vc, .bool x.all, .int .u8 (Sl.side x.sel), .int .u8 (Sl.zone x.sel), .int .u8 (Sl.kind x.sel)]) (by simp [results, Tryz.results120, go_sem, e0, e1, e2, e3, e4, e5, e6, e7, e8, e9, e10, e11, e12]) rfl ?_
  exact ⟨x, va, vn, vc, s4, rfl, frames_above (w := w4) (B := w2.heap.size) (ExAt.frames 5) HX.out (by repeat (first | (with_reducible exact Above.refl _ _) | (with_reducible refine Above.alloc ?_ _) | (with_reducible refine Above.drew ?_) | ((with_reducible refine Above.setCell ?_ ?_ _); rotate_left; focus (first | (simp; done) | (simp; omega) | omega)))) (by omega), Res.bind HR.out (Res.bind (by rw [HD.out]; exact HS.out.2) (Res.map _ R4.out)), (by repeat (first | (with_reducible exact GG.out) | (with_reducible refine Goes.alloc ?_ _) | (with_reducible refine Goes.drew ?_) | ((with_reducible refine Goes.store ?_ HE.out ?_ _); rotate_left; focus (first | (simp; done) | (simp; omega) | omega))))⟩

set_option maxHeartbeats 4000000 in
set_option maxRecDepth 100000 in
theorem step_pieces (E : Env) (p d : Nat) (w : World) (a dof : Nat) (hA : w.heap[a]? = some (.cells #[.int .u8 dof] 5 (0, 0))) (haR : a ≠ E.R) (hd : pStepBody E.ts d = (pOf E.ts ⟨dof, 0, .zero, false, .zero⟩)) (hv : stepV E.A d = .func (.func 153) #[] #[.pointer (some ⟨a, 0, none⟩)]) (hp : p + 1 < E.n) (hr : Res (pOne E.ts stepsW) (.ok p) d (.ok (p + 1))) (hf : findW stepsW (tk E.ts p).text 0 = some d) (h : Rd w E (.ok p) 0) :
    Calls Tryz.prog 120 #[.pointer (some ⟨E.R, 0, none⟩)] w (StEnds (pStep E.ts) E (.ok p) w) := by
  have HE := Lib.hid h.both
  have GG := Lib.hid (Goes.start h)
  obtain ⟨-, c1, -, -, -, -⟩ := h.cells
  have hlt := h.lt
  have HA := Lib.hid hA
  have HM := Lib.hid h.env.map
  have hmR := h.env.mR
  have hnext : Hid (∀ W, Rd W E (.ok p) 0 → _) := fun W hW => next_reads E (.ok p) 0 W hW
  have hpass : Hid (∀ W, Rd W E (.ok p) 0 → _) := fun W hW => pass_on E p 0 W hW hp
  have hlk : Hid (∀ W : World, W.heap[E.M]? = some (.map (entriesOf E.A).toArray 11) → (Instr.lookup 98 (.map (some E.M)) (.string (tk E.ts p).text) false).run Tryz.prog W = .ok (.func (.func 153) #[] #[.pointer (some ⟨a, 0, none⟩)]) W) := fun W hW => by
    rw [look_run W E hW, hf]; exact congrArg (fun v => Result.ok v W) hv
  have HD := Lib.hid hd
  have HR := Lib.hid hr
  simp only [Env.tok, RS.pos] at hnext
  generalize tk E.ts p = t at *
  obtain ⟨kd, tx, l, c⟩ := t
  have hf1 := tokf1 kd tx l c
  clear h hd hp hr hf hv hA
  go_enter Tryz.func120, Tryz.ntmps120
  go_wp2_with fail
  go_region_held3 (fun w' => w'.cell? ⟨E.R, 1, none⟩ = some (.map (some E.M)))
    (first | go_keep | (with_reducible exact c1'))
    (first
      | (go_at_call 59; refine (hnext.out _ (Goes.rd (w := w) (by repeat (first | (with_reducible exact GG.out) | (with_reducible refine Goes.alloc ?_ _) | (with_reducible refine Goes.drew ?_) | ((with_reducible refine Goes.store ?_ HE.out ?_ _); rotate_left; focus (first | (simp; done) | (simp; omega) | omega)))))).mono ?_; rintro e w1 ⟨rfl, b1⟩;
         have G1 := Lib.hid (Goes.below (w := w) (E := E) (s := .ok p) (d := 0) (by repeat (first | (with_reducible exact GG.out) | (with_reducible refine Goes.alloc ?_ _) | (with_reducible refine Goes.drew ?_) | ((with_reducible refine Goes.store ?_ HE.out ?_ _); rotate_left; focus (first | (simp; done) | (simp; omega) | omega)))) b1);
         have c1' : w1.cell? ⟨E.R, 1, none⟩ = some (.map (some E.M)) := (G1.out.rd.cells).2.1;
         have hM1 : w1.heap[E.M]? = some (.map (entriesOf E.A).toArray 11) := G1.out.rd.env.map;
         have hl1 := hlk.out w1 hM1; have hbk1 : Hid (∀ i, i < w.heap.size → w1.heap[i]? = w.heap[i]?) := (fun i hi => (b1.block i (by simp; omega)).trans (Below.heap_alloc _ _ _ hi));
         have hB1 : Hid (w1.heap[w.heap.size]? = some (.cells #[.int .u8 0, .int .u8 0, .int .u8 0, .int .i64 0, .int .u8 0, .int .u8 0, .int .u8 0, .int .u8 0, .slice none 0 0, .bool false, .int .u8 0, .int .u8 0, .int .u8 0] 58 (0, 0))) := (by refine (b1.block _ (by simp)).trans ?_; exact (by repeat (first | (with_reducible exact HB.out) | (with_reducible exact heap_alloc_new _ _) | (with_reducible refine heap_old ?_) | (with_reducible refine heap_drew ?_) | ((with_reducible refine heap_other ?_ ?_); rotate_left; focus (first | (simp; done) | (simp; omega) | omega)))))))
  have HB := hB1
  have GG := G1
  clear G1 hB1 hl1
  go_wp2_with fail
  refine (hpass.out _ (Goes.rd (w := w) (by repeat (first | (with_reducible exact GG.out) | (with_reducible refine Goes.alloc ?_ _) | (with_reducible refine Goes.drew ?_) | ((with_reducible refine Goes.store ?_ HE.out ?_ _); rotate_left; focus (first | (simp; done) | (simp; omega) | omega)))))).mono ?_
  rintro e w2 ⟨rfl, g2⟩
  have HB : Hid (w2.heap[w.heap.size]? = some (.cells #[.int .u8 0, .int .u8 0, .int .u8 0, .int .i64 0, .int .u8 0, .int .u8 0, .int .u8 0, .int .u8 0, .slice none 0 0, .bool false, .int .u8 0, .int .u8 0, .int .u8 0] 58 (0, 0))) := by refine g2.kept.heap (by omega) ?_; exact (by repeat (first | (with_reducible exact HB.out) | (with_reducible exact heap_alloc_new _ _) | (with_reducible refine heap_old ?_) | (with_reducible refine heap_drew ?_) | ((with_reducible refine heap_other ?_ ?_); rotate_left; focus (first | (simp; done) | (simp; omega) | omega))))
  have GG := Lib.hid (Goes.trans (w := w) (E := E) (s := .ok p) (d := 0) (by repeat (first | (with_reducible exact GG.out) | (with_reducible refine Goes.alloc ?_ _) | (with_reducible refine Goes.drew ?_) | ((with_reducible refine Goes.store ?_ HE.out ?_ _); rotate_left; focus (first | (simp; done) | (simp; omega) | omega)))) g2)
  have sz2 : w.heap.size < w2.heap.size := heap_lt HB.out
  have HA := Lib.hid (g2.kept.heap haR ((hbk1.out a (heap_lt HA.out)).trans HA.out))
  clear g2
  go_wp2_with fail
  refine (pieces_any E _ _ a dof HA.out (Goes.rd (w := w) (by repeat (first | (with_reducible exact GG.out) | (with_reducible refine Goes.alloc ?_ _) | (with_reducible refine Goes.drew ?_) | ((with_reducible refine Goes.store ?_ HE.out ?_ _); rotate_left; focus (first | (simp; done) | (simp; omega) | omega)))))).mono ?_
  rintro e w3 ⟨x, va, vn, vc, s3, rfl, hx, r3, g3⟩
  have HB : Hid (w3.heap[w.heap.size]? = some (.cells #[.int .u8 0, .int .u8 0, .int .u8 0, .int .i64 0, .int .u8 0, .int .u8 0, .int .u8 0, .int .u8 0, .slice none 0 0, .bool false, .int .u8 0, .int .u8 0, .int .u8 0] 58 (0, 0))) := by refine g3.kept.heap (by omega) ?_; exact (by repeat (first | (with_reducible exact HB.out) | (with_reducible exact heap_alloc_new _ _) | (with_reducible refine heap_old ?_) | (with_reducible refine heap_drew ?_) | ((with_reducible refine heap_other ?_ ?_); rotate_left; focus (first | (simp; done) | (simp; omega) | omega))))
  have GG := Lib.hid (Goes.trans (w := w) (E := E) (s := .ok (p + 1)) (d := 0) (by repeat (first | (with_reducible exact GG.out) | (with_reducible refine Goes.alloc ?_ _) | (with_reducible refine Goes.drew ?_) | ((with_reducible refine Goes.store ?_ HE.out ?_ _); rotate_left; focus (first | (simp; done) | (simp; omega) | omega)))) g3)
  have sz3 : w2.heap.size ≤ w3.heap.size := g3.kept.size
  have HS := Lib.hid (And.intro hx r3)
  clear hx r3 g3
  go_wp2_with fail
  refine (mark_any E s3 0 _ ⟨#[59]⟩ (by decide) (Goes.rd (w := w) (by repeat (first | (with_reducible exact GG.out) | (with_reducible refine Goes.alloc ?_ _) | (with_reducible refine Goes.drew ?_) | ((with_reducible refine Goes.store ?_ HE.out ?_ _); rotate_left; focus (first | (simp; done) | (simp; omega) | omega)))))).mono ?_
  rintro e w4 ⟨rfl, s4, r4, g4⟩
  have hB : w4.heap[w.heap.size]? = some (.cells #[.int .u8 0, .int .u8 0, .int .u8 0, .int .i64 0, .int .u8 0, .int .u8 0, .int .u8 0, .int .u8 0, .slice none 0 0, .bool false, .int .u8 0, .int .u8 0, .int .u8 0] 58 (0, 0)) := by refine g4.kept.heap (by omega) ?_; exact (by repeat (first | (with_reducible exact HB.out) | (with_reducible exact heap_alloc_new _ _) | (with_reducible refine heap_old ?_) | (with_reducible refine heap_drew ?_) | ((with_reducible refine heap_other ?_ ?_); rotate_left; focus (first | (simp; done) | (simp; omega) | omega))))
  have hX : w4.heap[w3.heap.size]? = some (.cells #[.int .u8 x.dof, .int .u8 x.side, .int .u8 (Ex.op x.n), .int .i64 (Ex.n x.n), .int .u8 (Ex.side x.n), .int .u8 (Ex.sel x.n).side, .int .u8 (Ex.sel x.n).zone, .int .u8 (Ex.sel x.n).kind, .slice va vn vc, .bool x.all, .int .u8 x.sel.side, .int .u8 x.sel.zone, .int .u8 x.sel.kind] 58 (0, 0)) := by refine g4.kept.heap (by omega) ?_; exact heap_alloc_new _ _
  have GG := Lib.hid (Goes.trans (w := w) (E := E) (s := s3) (d := 0) (by repeat (first | (with_reducible exact GG.out) | (with_reducible refine Goes.alloc ?_ _) | (with_reducible refine Goes.drew ?_) | ((with_reducible refine Goes.store ?_ HE.out ?_ _); rotate_left; focus (first | (simp; done) | (simp; omega) | omega)))) g4)
  have HX := Lib.hid (frames_above (w := w3) (w' := w4) (B := w2.heap.size) (B' := w2.heap.size) (ExAt.frames 5) HS.out.1 (((Above.refl _ _).alloc _).kept g4.kept (by omega)) (Nat.le_refl _))
  have R4 := Lib.hid r4
  have e0 := cell_blk (i := 0) hB
  have e1 := cell_blk (i := 1) hB
  have e2 := cell_blk (i := 2) hB
  have e3 := cell_blk (i := 3) hB
  have e4 := cell_blk (i := 4) hB
  have e5 := cell_blk (i := 5) hB
  have e6 := cell_blk (i := 6) hB
  have e7 := cell_blk (i := 7) hB
  have e8 := cell_blk (i := 8) hB
  have e9 := cell_blk (i := 9) hB
  have e10 := cell_blk (i := 10) hB
  have e11 := cell_blk (i := 11) hB
  have e12 := cell_blk (i := 12) hB
  have ef0 := free_blk (i := 0) hB
  have ef1 := free_blk (i := 1) hB
  have ef2 := free_blk (i := 2) hB
  have ef3 := free_blk (i := 3) hB
  have ef4 := free_blk (i := 4) hB
  have ef5 := free_blk (i := 5) hB
  have ef6 := free_blk (i := 6) hB
  have ef7 := free_blk (i := 7) hB
  have ef8 := free_blk (i := 8) hB
  have ef9 := free_blk (i := 9) hB
  have ef10 := free_blk (i := 10) hB
  have ef11 := free_blk (i := 11) hB
  have ef12 := free_blk (i := 12) hB
  simp at e0 e1 e2 e3 e4 e5 e6 e7 e8 e9 e10 e11 e12
  have cx0 := cell_blk (i := 0) hX
  have cx1 := cell_blk (i := 1) hX
  have cx2 := cell_blk (i := 2) hX
  have cx3 := cell_blk (i := 3) hX
  have cx4 := cell_blk (i := 4) hX
  have cx5 := cell_blk (i := 5) hX
  have cx6 := cell_blk (i := 6) hX
  have cx7 := cell_blk (i := 7) hX
  have cx8 := cell_blk (i := 8) hX
  have cx9 := cell_blk (i := 9) hX
  have cx10 := cell_blk (i := 10) hX
  have cx11 := cell_blk (i := 11) hX
  have cx12 := cell_blk (i := 12) hX
  have cxf0 := free_blk (i := 0) hX
  have cxf1 := free_blk (i := 1) hX
  have cxf2 := free_blk (i := 2) hX
  have cxf3 := free_blk (i := 3) hX
  have cxf4 := free_blk (i := 4) hX
  have cxf5 := free_blk (i := 5) hX
  have cxf6 := free_blk (i := 6) hX
  have cxf7 := free_blk (i := 7) hX
  have cxf8 := free_blk (i := 8) hX
  have cxf9 := free_blk (i := 9) hX
  have cxf10 := free_blk (i := 10) hX
  have cxf11 := free_blk (i := 11) hX
  have cxf12 := free_blk (i := 12) hX
  simp at cx0 cx1 cx2 cx3 cx4 cx5 cx6 cx7 cx8 cx9 cx10 cx11 cx12
  clear r4 g4 hB hX
  go_wp2
  refine bodyPost_ret (v := .agg #[.int .u8 x.dof, .int .u8 x.side, .int .u8 (Ex.op x.n), .int .i64 (Ex.n x.n), .int .u8 (Ex.side x.n), .int .u8 (Ex.sel x.n).side, .int .u8 (Ex.sel x.n).zone, .int .u8 (Ex.sel x.n).kind, .slice va vn vc, .bool x.all, .int .u8 (Sl.side x.sel), .int .u8 (Sl.zone x.sel), .int .u8 (Sl.kind x.sel)]) (by simp [results, Tryz.results120, go_sem, e0, e1, e2, e3, e4, e5, e6, e7, e8, e9, e10, e11, e12]) rfl ?_
  exact ⟨x, va, vn, vc, s4, rfl, frames_above (w := w4) (B := w2.heap.size) (ExAt.frames 5) HX.out (by repeat (first | (with_reducible exact Above.refl _ _) | (with_reducible refine Above.alloc ?_ _) | (with_reducible refine Above.drew ?_) | ((with_reducible refine Above.setCell ?_ ?_ _); rotate_left; focus (first | (simp; done) | (simp; omega) | omega)))) (by omega), Res.bind HR.out (Res.bind (by rw [HD.out]; exact HS.out.2) (Res.map _ R4.out)), (by repeat (first | (with_reducible exact GG.out) | (with_reducible refine Goes.alloc ?_ _) | (with_reducible refine Goes.drew ?_) | ((with_reducible refine Goes.store ?_ HE.out ?_ _); rotate_left; focus (first | (simp; done) | (simp; omega) | omega))))⟩

set_option maxHeartbeats 4000000 in
set_option maxRecDepth 100000 in
theorem step_boost (E : Env) (p d : Nat) (w : World) (a : Nat) (hA : w.heap[a]? = w.heap[a]?) (haR : a ≠ E.R) (hd : pStepBody E.ts d = ((pExpr E.ts 5).bind fun x => pOf E.ts ⟨7, 0, x, false, .zero⟩)) (hv : stepV E.A d = .func (.func 111) #[] #[]) (hp : p + 1 < E.n) (hr : Res (pOne E.ts stepsW) (.ok p) d (.ok (p + 1))) (hf : findW stepsW (tk E.ts p).text 0 = some d) (h : Rd w E (.ok p) 0) :
    Calls Tryz.prog 120 #[.pointer (some ⟨E.R, 0, none⟩)] w (StEnds (pStep E.ts) E (.ok p) w) := by
  have HE := Lib.hid h.both
  have GG := Lib.hid (Goes.start h)
  obtain ⟨-, c1, -, -, -, -⟩ := h.cells
  have hlt := h.lt
  have HA := Lib.hid hA
  have HM := Lib.hid h.env.map
  have hmR := h.env.mR
  have hnext : Hid (∀ W, Rd W E (.ok p) 0 → _) := fun W hW => next_reads E (.ok p) 0 W hW
  have hpass : Hid (∀ W, Rd W E (.ok p) 0 → _) := fun W hW => pass_on E p 0 W hW hp
  have hlk : Hid (∀ W : World, W.heap[E.M]? = some (.map (entriesOf E.A).toArray 11) → (Instr.lookup 98 (.map (some E.M)) (.string (tk E.ts p).text) false).run Tryz.prog W = .ok (.func (.func 111) #[] #[]) W) := fun W hW => by
    rw [look_run W E hW, hf]; exact congrArg (fun v => Result.ok v W) hv
  have HD := Lib.hid hd
  have HR := Lib.hid hr
  simp only [Env.tok, RS.pos] at hnext
  generalize tk E.ts p = t at *
  obtain ⟨kd, tx, l, c⟩ := t
  have hf1 := tokf1 kd tx l c
  clear h hd hp hr hf hv hA
  go_enter Tryz.func120, Tryz.ntmps120
  go_wp2_with fail
  go_region_held3 (fun w' => w'.cell? ⟨E.R, 1, none⟩ = some (.map (some E.M)))
    (first | go_keep | (with_reducible exact c1'))
    (first
      | (go_at_call 59; refine (hnext.out _ (Goes.rd (w := w) (by repeat (first | (with_reducible exact GG.out) | (with_reducible refine Goes.alloc ?_ _) | (with_reducible refine Goes.drew ?_) | ((with_reducible refine Goes.store ?_ HE.out ?_ _); rotate_left; focus (first | (simp; done) | (simp; omega) | omega)))))).mono ?_; rintro e w1 ⟨rfl, b1⟩;
         have G1 := Lib.hid (Goes.below (w := w) (E := E) (s := .ok p) (d := 0) (by repeat (first | (with_reducible exact GG.out) | (with_reducible refine Goes.alloc ?_ _) | (with_reducible refine Goes.drew ?_) | ((with_reducible refine Goes.store ?_ HE.out ?_ _); rotate_left; focus (first | (simp; done) | (simp; omega) | omega)))) b1);
         have c1' : w1.cell? ⟨E.R, 1, none⟩ = some (.map (some E.M)) := (G1.out.rd.cells).2.1;
         have hM1 : w1.heap[E.M]? = some (.map (entriesOf E.A).toArray 11) := G1.out.rd.env.map;
         have hl1 := hlk.out w1 hM1; have hbk1 : Hid (∀ i, i < w.heap.size → w1.heap[i]? = w.heap[i]?) := (fun i hi => (b1.block i (by simp; omega)).trans (Below.heap_alloc _ _ _ hi));
         have hB1 : Hid (w1.heap[w.heap.size]? = some (.cells #[.int .u8 0, .int .u8 0, .int .u8 0, .int .i64 0, .int .u8 0, .int .u8 0, .int .u8 0, .int .u8 0, .slice none 0 0, .bool false, .int .u8 0, .int .u8 0, .int .u8 0] 58 (0, 0))) := (by refine (b1.block _ (by simp)).trans ?_; exact (by repeat (first | (with_reducible exact HB.out) | (with_reducible exact heap_alloc_new _ _) | (with_reducible refine heap_old ?_) | (with_reducible refine heap_drew ?_) | ((with_reducible refine heap_other ?_ ?_); rotate_left; focus (first | (simp; done) | (simp; omega) | omega)))))))
  have HB := hB1
  have GG := G1
  clear G1 hB1 hl1
  go_wp2_with fail
  refine (hpass.out _ (Goes.rd (w := w) (by repeat (first | (with_reducible exact GG.out) | (with_reducible refine Goes.alloc ?_ _) | (with_reducible refine Goes.drew ?_) | ((with_reducible refine Goes.store ?_ HE.out ?_ _); rotate_left; focus (first | (simp; done) | (simp; omega) | omega)))))).mono ?_
  rintro e w2 ⟨rfl, g2⟩
  have HB : Hid (w2.heap[w.heap.size]? = some (.cells #[.int .u8 0, .int .u8 0, .int .u8 0, .int .i64 0, .int .u8 0, .int .u8 0, .int .u8 0, .int .u8 0, .slice none 0 0, .bool false, .int .u8 0, .int .u8 0, .int .u8 0] 58 (0, 0))) := by refine g2.kept.heap (by omega) ?_; exact (by repeat (first | (with_reducible exact HB.out) | (with_reducible exact heap_alloc_new _ _) | (with_reducible refine heap_old ?_) | (with_reducible refine heap_drew ?_) | ((with_reducible refine heap_other ?_ ?_); rotate_left; focus (first | (simp; done) | (simp; omega) | omega))))
  have GG := Lib.hid (Goes.trans (w := w) (E := E) (s := .ok p) (d := 0) (by repeat (first | (with_reducible exact GG.out) | (with_reducible refine Goes.alloc ?_ _) | (with_reducible refine Goes.drew ?_) | ((with_reducible refine Goes.store ?_ HE.out ?_ _); rotate_left; focus (first | (simp; done) | (simp; omega) | omega)))) g2)
  have sz2 : w.heap.size < w2.heap.size := heap_lt HB.out
  skip
  clear g2
  go_wp2_with fail
  refine (boost_any E _ _ (Goes.rd (w := w) (by repeat (first | (with_reducible exact GG.out) | (with_reducible refine Goes.alloc ?_ _) | (with_reducible refine Goes.drew ?_) | ((with_reducible refine Goes.store ?_ HE.out ?_ _); rotate_left; focus (first | (simp; done) | (simp; omega) | omega)))))).mono ?_
  rintro e w3 ⟨x, va, vn, vc, s3, rfl, hx, r3, g3⟩
  have HB : Hid (w3.heap[w.heap.size]? = some (.cells #[.int .u8 0, .int .u8 0, .int .u8 0, .int .i64 0, .int .u8 0, .int .u8 0, .int .u8 0, .int .u8 0, .slice none 0 0, .bool false, .int .u8 0, .int .u8 0, .int .u8 0] 58 (0, 0))) := by refine g3.kept.heap (by omega) ?_; exact (by repeat (first | (with_reducible exact HB.out) | (with_reducible exact heap_alloc_new _ _) | (with_reducible refine heap_old ?_) | (with_reducible refine heap_drew ?_) | ((with_reducible refine heap_other ?_ ?_); rotate_left; focus (first | (simp; done) | (simp; omega) | omega))))
  have GG := Lib.hid (Goes.trans (w := w) (E := E) (s := .ok (p + 1)) (d := 0) (by repeat (first | (with_reducible exact GG.out) | (with_reducible refine Goes.alloc ?_ _) | (with_reducible refine Goes.drew ?_) | ((with_reducible refine Goes.store ?_ HE.out ?_ _); rotate_left; focus (first | (simp; done) | (simp; omega) | omega)))) g3)
  have sz3 : w2.heap.size ≤ w3.heap.size := g3.kept.size
  have HS := Lib.hid (And.intro hx r3)
  clear hx r3 g3
  go_wp2_with fail
  refine (mark_any E s3 0 _ ⟨#[59]⟩ (by decide) (Goes.rd (w := w) (by repeat (first | (with_reducible exact GG.out) | (with_reducible refine Goes.alloc ?_ _) | (with_reducible refine Goes.drew ?_) | ((with_reducible refine Goes.store ?_ HE.out ?_ _); rotate_left; focus (first | (simp; done) | (simp; omega) | omega)))))).mono ?_
  rintro e w4 ⟨rfl, s4, r4, g4⟩
  have hB : w4.heap[w.heap.size]? = some (.cells #[.int .u8 0, .int .u8 0, .int .u8 0, .int .i64 0, .int .u8 0, .int .u8 0, .int .u8 0, .int .u8 0, .slice none 0 0, .bool false, .int .u8 0, .int .u8 0, .int .u8 0] 58 (0, 0)) := by refine g4.kept.heap (by omega) ?_; exact (by repeat (first | (with_reducible exact HB.out) | (with_reducible exact heap_alloc_new _ _) | (with_reducible refine heap_old ?_) | (with_reducible refine heap_drew ?_) | ((with_reducible refine heap_other ?_ ?_); rotate_left; focus (first | (simp; done) | (simp; omega) | omega))))
  have hX : w4.heap[w3.heap.size]? = some (.cells #[.int .u8 x.dof, .int .u8 x.side, .int .u8 (Ex.op x.n), .int .i64 (Ex.n x.n), .int .u8 (Ex.side x.n), .int .u8 (Ex.sel x.n).side, .int .u8 (Ex.sel x.n).zone, .int .u8 (Ex.sel x.n).kind, .slice va vn vc, .bool x.all, .int .u8 x.sel.side, .int .u8 x.sel.zone, .int .u8 x.sel.kind] 58 (0, 0)) := by refine g4.kept.heap (by omega) ?_; exact heap_alloc_new _ _
  have GG := Lib.hid (Goes.trans (w := w) (E := E) (s := s3) (d := 0) (by repeat (first | (with_reducible exact GG.out) | (with_reducible refine Goes.alloc ?_ _) | (with_reducible refine Goes.drew ?_) | ((with_reducible refine Goes.store ?_ HE.out ?_ _); rotate_left; focus (first | (simp; done) | (simp; omega) | omega)))) g4)
  have HX := Lib.hid (frames_above (w := w3) (w' := w4) (B := w2.heap.size) (B' := w2.heap.size) (ExAt.frames 5) HS.out.1 (((Above.refl _ _).alloc _).kept g4.kept (by omega)) (Nat.le_refl _))
  have R4 := Lib.hid r4
  have e0 := cell_blk (i := 0) hB
  have e1 := cell_blk (i := 1) hB
  have e2 := cell_blk (i := 2) hB
  have e3 := cell_blk (i := 3) hB
  have e4 := cell_blk (i := 4) hB
  have e5 := cell_blk (i := 5) hB
  have e6 := cell_blk (i := 6) hB
  have e7 := cell_blk (i := 7) hB
  have e8 := cell_blk (i := 8) hB
  have e9 := cell_blk (i := 9) hB
  have e10 := cell_blk (i := 10) hB
  have e11 := cell_blk (i := 11) hB
  have e12 := cell_blk (i := 12) hB
  have ef0 := free_blk (i := 0) hB
  have ef1 := free_blk (i := 1) hB
  have ef2 := free_blk (i := 2) hB
  have ef3 := free_blk (i := 3) hB
  have ef4 := free_blk (i := 4) hB
  have ef5 := free_blk (i := 5) hB
  have ef6 := free_blk (i := 6) hB
  have ef7 := free_blk (i := 7) hB
  have ef8 := free_blk (i := 8) hB
  have ef9 := free_blk (i := 9) hB
  have ef10 := free_blk (i := 10) hB
  have ef11 := free_blk (i := 11) hB
  have ef12 := free_blk (i := 12) hB
  simp at e0 e1 e2 e3 e4 e5 e6 e7 e8 e9 e10 e11 e12
  have cx0 := cell_blk (i := 0) hX
  have cx1 := cell_blk (i := 1) hX
  have cx2 := cell_blk (i := 2) hX
  have cx3 := cell_blk (i := 3) hX
  have cx4 := cell_blk (i := 4) hX
  have cx5 := cell_blk (i := 5) hX
  have cx6 := cell_blk (i := 6) hX
  have cx7 := cell_blk (i := 7) hX
  have cx8 := cell_blk (i := 8) hX
  have cx9 := cell_blk (i := 9) hX
  have cx10 := cell_blk (i := 10) hX
  have cx11 := cell_blk (i := 11) hX
  have cx12 := cell_blk (i := 12) hX
  have cxf0 := free_blk (i := 0) hX
  have cxf1 := free_blk (i := 1) hX
  have cxf2 := free_blk (i := 2) hX
  have cxf3 := free_blk (i := 3) hX
  have cxf4 := free_blk (i := 4) hX
  have cxf5 := free_blk (i := 5) hX
  have cxf6 := free_blk (i := 6) hX
  have cxf7 := free_blk (i := 7) hX
  have cxf8 := free_blk (i := 8) hX
  have cxf9 := free_blk (i := 9) hX
  have cxf10 := free_blk (i := 10) hX
  have cxf11 := free_blk (i := 11) hX
  have cxf12 := free_blk (i := 12) hX
  simp at cx0 cx1 cx2 cx3 cx4 cx5 cx6 cx7 cx8 cx9 cx10 cx11 cx12
  clear r4 g4 hB hX
  go_wp2
  refine bodyPost_ret (v := .agg #[.int .u8 x.dof, .int .u8 x.side, .int .u8 (Ex.op x.n), .int .i64 (Ex.n x.n), .int .u8 (Ex.side x.n), .int .u8 (Ex.sel x.n).side, .int .u8 (Ex.sel x.n).zone, .int .u8 (Ex.sel x.n).kind, .slice va vn vc, .bool x.all, .int .u8 (Sl.side x.sel), .int .u8 (Sl.zone x.sel), .int .u8 (Sl.kind x.sel)]) (by simp [results, Tryz.results120, go_sem, e0, e1, e2, e3, e4, e5, e6, e7, e8, e9, e10, e11, e12]) rfl ?_
  exact ⟨x, va, vn, vc, s4, rfl, frames_above (w := w4) (B := w2.heap.size) (ExAt.frames 5) HX.out (by repeat (first | (with_reducible exact Above.refl _ _) | (with_reducible refine Above.alloc ?_ _) | (with_reducible refine Above.drew ?_) | ((with_reducible refine Above.setCell ?_ ?_ _); rotate_left; focus (first | (simp; done) | (simp; omega) | omega)))) (by omega), Res.bind HR.out (Res.bind (by rw [HD.out]; exact HS.out.2) (Res.map _ R4.out)), (by repeat (first | (with_reducible exact GG.out) | (with_reducible refine Goes.alloc ?_ _) | (with_reducible refine Goes.drew ?_) | ((with_reducible refine Goes.store ?_ HE.out ?_ _); rotate_left; focus (first | (simp; done) | (simp; omega) | omega))))⟩

set_option maxHeartbeats 4000000 in
set_option maxRecDepth 100000 in
theorem step_negate (E : Env) (p d : Nat) (w : World) (a : Nat) (hA : w.heap[a]? = w.heap[a]?) (haR : a ≠ E.R) (hd : pStepBody E.ts d = (Par.pure ⟨10, 0, .zero, false, .zero⟩)) (hv : stepV E.A d = .func (.func 112) #[] #[]) (hp : p + 1 < E.n) (hr : Res (pOne E.ts stepsW) (.ok p) d (.ok (p + 1))) (hf : findW stepsW (tk E.ts p).text 0 = some d) (h : Rd w E (.ok p) 0) :
    Calls Tryz.prog 120 #[.pointer (some ⟨E.R, 0, none⟩)] w (StEnds (pStep E.ts) E (.ok p) w) := by
  have HE := Lib.hid h.both
  have GG := Lib.hid (Goes.start h)
  obtain ⟨-, c1, -, -, -, -⟩ := h.cells
  have hlt := h.lt
  have HA := Lib.hid hA
  have HM := Lib.hid h.env.map
  have hmR := h.env.mR
  have hnext : Hid (∀ W, Rd W E (.ok p) 0 → _) := fun W hW => next_reads E (.ok p) 0 W hW
  have hpass : Hid (∀ W, Rd W E (.ok p) 0 → _) := fun W hW => pass_on E p 0 W hW hp
  have hlk : Hid (∀ W : World, W.heap[E.M]? = some (.map (entriesOf E.A).toArray 11) → (Instr.lookup 98 (.map (some E.M)) (.string (tk E.ts p).text) false).run Tryz.prog W = .ok (.func (.func 112) #[] #[]) W) := fun W hW => by
    rw [look_run W E hW, hf]; exact congrArg (fun v => Result.ok v W) hv
  have HD := Lib.hid hd
  have HR := Lib.hid hr
  simp only [Env.tok, RS.pos] at hnext
  generalize tk E.ts p = t at *
  obtain ⟨kd, tx, l, c⟩ := t
  have hf1 := tokf1 kd tx l c
  clear h hd hp hr hf hv hA
  go_enter Tryz.func120, Tryz.ntmps120
  go_wp2_with fail
  go_region_held3 (fun w' => w'.cell? ⟨E.R, 1, none⟩ = some (.map (some E.M)))
    (first | go_keep | (with_reducible exact c1'))
    (first
      | (go_at_call 59; refine (hnext.out _ (Goes.rd (w := w) (by repeat (first | (with_reducible exact GG.out) | (with_reducible refine Goes.alloc ?_ _) | (with_reducible refine Goes.drew ?_) | ((with_reducible refine Goes.store ?_ HE.out ?_ _); rotate_left; focus (first | (simp; done) | (simp; omega) | omega)))))).mono ?_; rintro e w1 ⟨rfl, b1⟩;
         have G1 := Lib.hid (Goes.below (w := w) (E := E) (s := .ok p) (d := 0) (by repeat (first | (with_reducible exact GG.out) | (with_reducible refine Goes.alloc ?_ _) | (with_reducible refine Goes.drew ?_) | ((with_reducible refine Goes.store ?_ HE.out ?_ _); rotate_left; focus (first | (simp; done) | (simp; omega) | omega)))) b1);
         have c1' : w1.cell? ⟨E.R, 1, none⟩ = some (.map (some E.M)) := (G1.out.rd.cells).2.1;
         have hM1 : w1.heap[E.M]? = some (.map (entriesOf E.A).toArray 11) := G1.out.rd.env.map;
         have hl1 := hlk.out w1 hM1; have hbk1 : Hid (∀ i, i < w.heap.size → w1.heap[i]? = w.heap[i]?) := (fun i hi => (b1.block i (by simp; omega)).trans (Below.heap_alloc _ _ _ hi));
         have hB1 : Hid (w1.heap[w.heap.size]? = some (.cells #[.int .u8 0, .int .u8 0, .int .u8 0, .int .i64 0, .int .u8 0, .int .u8 0, .int .u8 0, .int .u8 0, .slice none 0 0, .bool false, .int .u8 0, .int .u8 0, .int .u8 0] 58 (0, 0))) := (by refine (b1.block _ (by simp)).trans ?_; exact (by repeat (first | (with_reducible exact HB.out) | (with_reducible exact heap_alloc_new _ _) | (with_reducible refine heap_old ?_) | (with_reducible refine heap_drew ?_) | ((with_reducible refine heap_other ?_ ?_); rotate_left; focus (first | (simp; done) | (simp; omega) | omega)))))))
  have HB := hB1
  have GG := G1
  clear G1 hB1 hl1
  go_wp2_with fail
  refine (hpass.out _ (Goes.rd (w := w) (by repeat (first | (with_reducible exact GG.out) | (with_reducible refine Goes.alloc ?_ _) | (with_reducible refine Goes.drew ?_) | ((with_reducible refine Goes.store ?_ HE.out ?_ _); rotate_left; focus (first | (simp; done) | (simp; omega) | omega)))))).mono ?_
  rintro e w2 ⟨rfl, g2⟩
  have HB : Hid (w2.heap[w.heap.size]? = some (.cells #[.int .u8 0, .int .u8 0, .int .u8 0, .int .i64 0, .int .u8 0, .int .u8 0, .int .u8 0, .int .u8 0, .slice none 0 0, .bool false, .int .u8 0, .int .u8 0, .int .u8 0] 58 (0, 0))) := by refine g2.kept.heap (by omega) ?_; exact (by repeat (first | (with_reducible exact HB.out) | (with_reducible exact heap_alloc_new _ _) | (with_reducible refine heap_old ?_) | (with_reducible refine heap_drew ?_) | ((with_reducible refine heap_other ?_ ?_); rotate_left; focus (first | (simp; done) | (simp; omega) | omega))))
  have GG := Lib.hid (Goes.trans (w := w) (E := E) (s := .ok p) (d := 0) (by repeat (first | (with_reducible exact GG.out) | (with_reducible refine Goes.alloc ?_ _) | (with_reducible refine Goes.drew ?_) | ((with_reducible refine Goes.store ?_ HE.out ?_ _); rotate_left; focus (first | (simp; done) | (simp; omega) | omega)))) g2)
  have sz2 : w.heap.size < w2.heap.size := heap_lt HB.out
  skip
  clear g2
  go_wp2_with fail
  refine (negate_any E _ _ (Goes.rd (w := w) (by repeat (first | (with_reducible exact GG.out) | (with_reducible refine Goes.alloc ?_ _) | (with_reducible refine Goes.drew ?_) | ((with_reducible refine Goes.store ?_ HE.out ?_ _); rotate_left; focus (first | (simp; done) | (simp; omega) | omega)))))).mono ?_
  rintro e w3 ⟨x, va, vn, vc, s3, rfl, hx, r3, g3⟩
  have HB : Hid (w3.heap[w.heap.size]? = some (.cells #[.int .u8 0, .int .u8 0, .int .u8 0, .int .i64 0, .int .u8 0, .int .u8 0, .int .u8 0, .int .u8 0, .slice none 0 0, .bool false, .int .u8 0, .int .u8 0, .int .u8 0] 58 (0, 0))) := by refine g3.kept.heap (by omega) ?_; exact (by repeat (first | (with_reducible exact HB.out) | (with_reducible exact heap_alloc_new _ _) | (with_reducible refine heap_old ?_) | (with_reducible refine heap_drew ?_) | ((with_reducible refine heap_other ?_ ?_); rotate_left; focus (first | (simp; done) | (simp; omega) | omega))))
  have GG := Lib.hid (Goes.trans (w := w) (E := E) (s := .ok (p + 1)) (d := 0) (by repeat (first | (with_reducible exact GG.out) | (with_reducible refine Goes.alloc ?_ _) | (with_reducible refine Goes.drew ?_) | ((with_reducible refine Goes.store ?_ HE.out ?_ _); rotate_left; focus (first | (simp; done) | (simp; omega) | omega)))) g3)
  have sz3 : w2.heap.size ≤ w3.heap.size := g3.kept.size
  have HS := Lib.hid (And.intro hx r3)
  clear hx r3 g3
  go_wp2_with fail
  refine (mark_any E s3 0 _ ⟨#[59]⟩ (by decide) (Goes.rd (w := w) (by repeat (first | (with_reducible exact GG.out) | (with_reducible refine Goes.alloc ?_ _) | (with_reducible refine Goes.drew ?_) | ((with_reducible refine Goes.store ?_ HE.out ?_ _); rotate_left; focus (first | (simp; done) | (simp; omega) | omega)))))).mono ?_
  rintro e w4 ⟨rfl, s4, r4, g4⟩
  have hB : w4.heap[w.heap.size]? = some (.cells #[.int .u8 0, .int .u8 0, .int .u8 0, .int .i64 0, .int .u8 0, .int .u8 0, .int .u8 0, .int .u8 0, .slice none 0 0, .bool false, .int .u8 0, .int .u8 0, .int .u8 0] 58 (0, 0)) := by refine g4.kept.heap (by omega) ?_; exact (by repeat (first | (with_reducible exact HB.out) | (with_reducible exact heap_alloc_new _ _) | (with_reducible refine heap_old ?_) | (with_reducible refine heap_drew ?_) | ((with_reducible refine heap_other ?_ ?_); rotate_left; focus (first | (simp; done) | (simp; omega) | omega))))
  have hX : w4.heap[w3.heap.size]? = some (.cells #[.int .u8 x.dof, .int .u8 x.side, .int .u8 (Ex.op x.n), .int .i64 (Ex.n x.n), .int .u8 (Ex.side x.n), .int .u8 (Ex.sel x.n).side, .int .u8 (Ex.sel x.n).zone, .int .u8 (Ex.sel x.n).kind, .slice va vn vc, .bool x.all, .int .u8 x.sel.side, .int .u8 x.sel.zone, .int .u8 x.sel.kind] 58 (0, 0)) := by refine g4.kept.heap (by omega) ?_; exact heap_alloc_new _ _
  have GG := Lib.hid (Goes.trans (w := w) (E := E) (s := s3) (d := 0) (by repeat (first | (with_reducible exact GG.out) | (with_reducible refine Goes.alloc ?_ _) | (with_reducible refine Goes.drew ?_) | ((with_reducible refine Goes.store ?_ HE.out ?_ _); rotate_left; focus (first | (simp; done) | (simp; omega) | omega)))) g4)
  have HX := Lib.hid (frames_above (w := w3) (w' := w4) (B := w2.heap.size) (B' := w2.heap.size) (ExAt.frames 5) HS.out.1 (((Above.refl _ _).alloc _).kept g4.kept (by omega)) (Nat.le_refl _))
  have R4 := Lib.hid r4
  have e0 := cell_blk (i := 0) hB
  have e1 := cell_blk (i := 1) hB
  have e2 := cell_blk (i := 2) hB
  have e3 := cell_blk (i := 3) hB
  have e4 := cell_blk (i := 4) hB
  have e5 := cell_blk (i := 5) hB
  have e6 := cell_blk (i := 6) hB
  have e7 := cell_blk (i := 7) hB
  have e8 := cell_blk (i := 8) hB
  have e9 := cell_blk (i := 9) hB
  have e10 := cell_blk (i := 10) hB
  have e11 := cell_blk (i := 11) hB
  have e12 := cell_blk (i := 12) hB
  have ef0 := free_blk (i := 0) hB
  have ef1 := free_blk (i := 1) hB
  have ef2 := free_blk (i := 2) hB
  have ef3 := free_blk (i := 3) hB
  have ef4 := free_blk (i := 4) hB
  have ef5 := free_blk (i := 5) hB
  have ef6 := free_blk (i := 6) hB
  have ef7 := free_blk (i := 7) hB
  have ef8 := free_blk (i := 8) hB
  have ef9 := free_blk (i := 9) hB
  have ef10 := free_blk (i := 10) hB
  have ef11 := free_blk (i := 11) hB
  have ef12 := free_blk (i := 12) hB
  simp at e0 e1 e2 e3 e4 e5 e6 e7 e8 e9 e10 e11 e12
  have cx0 := cell_blk (i := 0) hX
  have cx1 := cell_blk (i := 1) hX
  have cx2 := cell_blk (i := 2) hX
  have cx3 := cell_blk (i := 3) hX
  have cx4 := cell_blk (i := 4) hX
  have cx5 := cell_blk (i := 5) hX
  have cx6 := cell_blk (i := 6) hX
  have cx7 := cell_blk (i := 7) hX
  have cx8 := cell_blk (i := 8) hX
  have cx9 := cell_blk (i := 9) hX
  have cx10 := cell_blk (i := 10) hX
  have cx11 := cell_blk (i := 11) hX
  have cx12 := cell_blk (i := 12) hX
  have cxf0 := free_blk (i := 0) hX
  have cxf1 := free_blk (i := 1) hX
  have cxf2 := free_blk (i := 2) hX
  have cxf3 := free_blk (i := 3) hX
  have cxf4 := free_blk (i := 4) hX
  have cxf5 := free_blk (i := 5) hX
  have cxf6 := free_blk (i := 6) hX
  have cxf7 := free_blk (i := 7) hX
  have cxf8 := free_blk (i := 8) hX
  have cxf9 := free_blk (i := 9) hX
  have cxf10 := free_blk (i := 10) hX
  have cxf11 := free_blk (i := 11) hX
  have cxf12 := free_blk (i := 12) hX
  simp at cx0 cx1 cx2 cx3 cx4 cx5 cx6 cx7 cx8 cx9 cx10 cx11 cx12
  clear r4 g4 hB hX
  go_wp2
  refine bodyPost_ret (v := .agg #[.int .u8 x.dof, .int .u8 x.side, .int .u8 (Ex.op x.n), .int .i64 (Ex.n x.n), .int .u8 (Ex.side x.n), .int .u8 (Ex.sel x.n).side, .int .u8 (Ex.sel x.n).zone, .int .u8 (Ex.sel x.n).kind, .slice va vn vc, .bool x.all, .int .u8 (Sl.side x.sel), .int .u8 (Sl.zone x.sel), .int .u8 (Sl.kind x.sel)]) (by simp [results, Tryz.results120, go_sem, e0, e1, e2, e3, e4, e5, e6, e7, e8, e9, e10, e11, e12]) rfl ?_
  exact ⟨x, va, vn, vc, s4, rfl, frames_above (w := w4) (B := w2.heap.size) (ExAt.frames 5) HX.out (by repeat (first | (with_reducible exact Above.refl _ _) | (with_reducible refine Above.alloc ?_ _) | (with_reducible refine Above.drew ?_) | ((with_reducible refine Above.setCell ?_ ?_ _); rotate_left; focus (first | (simp; done) | (simp; omega) | omega)))) (by omega), Res.bind HR.out (Res.bind (by rw [HD.out]; exact HS.out.2) (Res.map _ R4.out)), (by repeat (first | (with_reducible exact GG.out) | (with_reducible refine Goes.alloc ?_ _) | (with_reducible refine Goes.drew ?_) | ((with_reducible refine Goes.store ?_ HE.out ?_ _); rotate_left; focus (first | (simp; done) | (simp; omega) | omega))))⟩

theorem step_any (E : Env) (s : RS) (w : World) (hb : (findW stepsW (E.tok s).text 0).isSome = true) (h : Rd w E s 0) :
    Calls Tryz.prog 120 #[.pointer (some ⟨E.R, 0, none⟩)] w (StEnds (pStep E.ts) E s w) := by
  cases hf : findW stepsW (E.tok s).text 0 with
  | none => rw [hf] at hb; cases hb
  | some d =>
    obtain ⟨p, rfl, hp, hr⟩ := step_word h hf
    have hd : d < 11 := by have := (findW_lt _ _ _ _ hf).2.1; simpa [stepsW] using this
    have hf' : findW stepsW (tk E.ts p).text 0 = some d := hf
    have hA := fun i hi => h.env.vars i hi
    match d, hd, hr, hf' with
    | 0, _, hr, hf => exact step_amount E p 0 w (E.A 0) 0 (hA 0 (by omega)).1 (hA 0 (by omega)).2 (by rw [pStepBody, if_pos (by decide)]; rfl) rfl hp hr hf h
    | 1, _, hr, hf => exact step_amount E p 1 w (E.A 1) 1 (hA 1 (by omega)).1 (hA 1 (by omega)).2 (by rw [pStepBody, if_pos (by decide)]; rfl) rfl hp hr hf h
    | 2, _, hr, hf => exact step_amount E p 2 w (E.A 2) 2 (hA 2 (by omega)).1 (hA 2 (by omega)).2 (by rw [pStepBody, if_pos (by decide)]; rfl) rfl hp hr hf h
    | 3, _, hr, hf => exact step_amount E p 3 w (E.A 3) 3 (hA 3 (by omega)).1 (hA 3 (by omega)).2 (by rw [pStepBody, if_pos (by decide)]; rfl) rfl hp hr hf h
    | 9, _, hr, hf => exact step_amount E p 9 w (E.A 4) 9 (hA 4 (by omega)).1 (hA 4 (by omega)).2 (by rw [pStepBody, if_pos (by decide)]; rfl) rfl hp hr hf h
    | 4, _, hr, hf => exact step_pieces E p 4 w (E.A 5) 4 (hA 5 (by omega)).1 (hA 5 (by omega)).2 (by rw [pStepBody, if_neg (by decide), if_neg (by decide), if_neg (by decide)]) rfl hp hr hf h
    | 5, _, hr, hf => exact step_pieces E p 5 w (E.A 6) 5 (hA 6 (by omega)).1 (hA 6 (by omega)).2 (by rw [pStepBody, if_neg (by decide), if_neg (by decide), if_neg (by decide)]) rfl hp hr hf h
    | 6, _, hr, hf => exact step_pieces E p 6 w (E.A 7) 6 (hA 7 (by omega)).1 (hA 7 (by omega)).2 (by rw [pStepBody, if_neg (by decide), if_neg (by decide), if_neg (by decide)]) rfl hp hr hf h
    | 8, _, hr, hf => exact step_pieces E p 8 w (E.A 8) 8 (hA 8 (by omega)).1 (hA 8 (by omega)).2 (by rw [pStepBody, if_neg (by decide), if_neg (by decide), if_neg (by decide)]) rfl hp hr hf h
    | 7, _, hr, hf => exact step_boost E p 7 w (E.A 0) rfl (hA 0 (by omega)).2 (by rw [pStepBody, if_neg (by decide), if_pos (by decide)]) rfl hp hr hf h
    | 10, _, hr, hf => exact step_negate E p 10 w (E.A 0) rfl (hA 0 (by omega)).2 (by rw [pStepBody, if_neg (by decide), if_neg (by decide), if_pos (by decide)]) rfl hp hr hf h
end Go.Proofs.YtmhpopkbmnhkkaaGreatDoor
