import Derived.Test.YtmhpopkbmnhkkaaGreatDoorQPar
import Derived.Test.YtmhpopkbmnhkkaaGreatDoorQParB
import Derived.StillTailTactics
import Derived.Deep.RegionHeld3
/- joustref00: cards, expressions that are the same are told so. -/
namespace Go.Proofs.YtmhpopkbmnhkkaaGreatDoor
open Go.RowKit Go.Lib

theorem flat_get {size : Nat} : ∀ (css : List (List Value)), (∀ c ∈ css, c.length = size) → ∀ (k j : Nat) (c : List Value), css[k]? = some c → j < size → css.flatten[k * size + j]? = c[j]?
  | [], _, k, j, c, h, _ => by simp at h
  | x :: l, hl, k, j, c, h, hj => by
    have hx : x.length = size := hl x List.mem_cons_self
    rw [List.flatten_cons]
    cases k with
    | zero =>
      simp at h
      subst h
      rw [List.getElem?_append_left (by omega)]
      simp
    | succ k =>
      simp at h
      have e : (k + 1) * size + j = size + (k * size + j) := by rw [Nat.succ_mul]; omega
      rw [e, List.getElem?_append_right (by omega), hx, Nat.add_sub_cancel_left]
      exact flat_get l (fun c hc => hl c (List.mem_cons_of_mem _ hc)) k j c h hj
theorem Each.lens {α : Type} {Q : List Value → α → Prop} {size : Nat} {cs xs} (h : Each Q cs xs) (hq : ∀ c x, Q c x → c.length = size) : ∀ c ∈ cs, c.length = size := by
  induction h with
  | nil => intro c hc; cases hc
  | cons a _ ih =>
    intro c hc
    rcases List.mem_cons.1 hc with rfl | hc
    · exact hq _ _ a
    · exact ih c hc

/-- A slice's things, cell by cell. -/
theorem RowAt.open {α : Type} {P : World → (Nat → Prop) → List Value → α → Prop} {w : World} {S : Nat → Prop} {ty : TypeId} {size : Nat} {v : Value} {xs : List α} (h : RowAt w S ty size P v xs) :
    (v = .slice none 0 0 ∧ xs = []) ∨ ∃ g cap, v = .slice (some ⟨g, 0, none⟩) xs.length cap ∧ xs.length ≤ cap ∧ cap ≤ maxLen ∧ S g ∧ g < w.heap.size ∧ (∃ cur, w.heap[g]? = some (.cells cur ty (0, 0)) ∧ cur.size = cap * size) ∧
      ∀ (k : Nat) (x : α), xs[k]? = some x → ∃ c, c.length = size ∧ P w (fun i => S i ∧ i ≠ g) c x ∧ ∀ (j : Nat) (u : Value), j < size → c[j]? = some u → w.cell? ⟨g, k * size + j, none⟩ = some u := by
  obtain ⟨css, ho, hb, ha⟩ := h
  rcases ho.2 with ⟨hv, hn⟩ | ⟨g, cap, cur, hv, _, hh, hc, hm, hsz, ht⟩
  · exact .inl ⟨hv, List.eq_nil_of_length_eq_zero hn⟩
  · refine .inr ⟨g, cap, hv, hc, hm, hb g (by rw [hv]; rfl), heap_lt hh, ⟨cur, hh, hsz⟩, fun k x hk => ?_⟩
    obtain ⟨c, hck, hlen, -, hp⟩ := ha.get k x hk
    refine ⟨c, hlen, ?_, fun j u hj hu => ?_⟩
    · have e : (fun i => S i ∧ v.ownBlock ≠ some i) = (fun i => S i ∧ i ≠ g) := by
        funext i
        rw [hv]
        simp only [Value.ownBlock, ne_eq, Option.some.injEq, eq_comm]
      rw [e] at hp
      exact hp
    · have hlt : k < xs.length := (List.getElem?_eq_some_iff.1 hk).1
      have hf := flat_get css (ha.lens fun c x h => h.1) k j c hck hj
      rw [cell_blk hh, ← hu, ← hf, ← ht, List.getElem?_take_of_lt ?_]
      · simp
      · have : k * size + size ≤ xs.length * size := by rw [← Nat.succ_mul]; exact Nat.mul_le_mul_right _ hlt
        omega

def ExprYes (k : Nat) : Prop := ∀ (W : World) (S1 S2 : Nat → Prop) (x : Ex) (a b : Option Addr) (n c m d : Nat), ExAt k W S1 (exV x (.slice a n c)) x → ExAt k W S2 (exV x (.slice b m d)) x →
  Calls Tryz.prog 25 #[.agg #[.int .u8 x.op, .int .i64 x.n, .int .u8 x.side, .int .u8 x.sel.side, .int .u8 x.sel.zone, .int .u8 x.sel.kind, .slice a n c], .agg #[.int .u8 x.op, .int .i64 x.n, .int .u8 x.side, .int .u8 x.sel.side, .int .u8 x.sel.zone, .int .u8 x.sel.kind, .slice b m d]] W
    fun e w' => e = .returned (.bool true) ∧ Below W.heap.size W w'
def ExprsYes (P : World → (Nat → Prop) → List Value → Ex → Prop) : Prop := ∀ (W : World) (S1 S2 : Nat → Prop) (xs : List Ex) (a b : Option Addr) (n c m d : Nat), RowAt W S1 46 7 P (.slice a n c) xs → RowAt W S2 46 7 P (.slice b m d) xs →
  Calls Tryz.prog 13 #[.slice a n c, .slice b m d] W fun e w' => e = .returned (.bool true) ∧ Below W.heap.size W w'

theorem exV_inj {x y : Ex} {u v : Value} (h : exV x u = exV y v) : u = v := by
  simp only [exV, List.cons.injEq] at h
  exact h.2.2.2.2.2.2.1

set_option maxHeartbeats 2000000 in
set_option maxRecDepth 100000 in
theorem expr_by (k : Nat) (P : World → (Nat → Prop) → List Value → Ex → Prop) (hP : Frames P) (hk : ∀ W S x v, ExAt k W S (exV x v) x → RowAt W S 46 7 P v x.args) (ih : ExprsYes P) : ExprYes k := by
  intro W S1 S2 x a b n c m d h1 h2
  have r1 := hk _ _ _ _ h1
  have r2 := hk _ _ _ _ h2
  have hc : Hid (∀ W', Below W.heap.size W W' → Calls Tryz.prog 13 #[.slice a n c, .slice b m d] W' fun e w' => e = .returned (.bool true) ∧ Below W'.heap.size W' w') := fun W' hb =>
    ih W' S1 S2 x.args a b n c m d (r1.frame hP fun i hs hl => ⟨hs, hb.block i hl⟩) (r2.frame hP fun i hs hl => ⟨hs, hb.block i hl⟩)
  clear h1 h2 r1 r2 hk ih hP
  obtain ⟨o, nn, sd, ⟨e1, e2, e3⟩, l⟩ := x
  simp only [Ex.op, Ex.n, Ex.side, Ex.sel] at *
  go_enter Tryz.func25, Tryz.ntmps25
  go_wp2_with fail
  refine (hc.out _ (by repeat (first | (with_reducible exact Below.refl _ _) | (with_reducible assumption) | ((with_reducible refine Below.setCell ?_ ?_ _); rotate_left; focus (simp; done)) | ((with_reducible refine Below.alloc ?_ ?_ _); rotate_left; focus (simp; done)) | (with_reducible refine Below.drew ?_)))).mono ?_
  rintro e w1 ⟨rfl, b1⟩
  have B1 : Hid (Below W.heap.size W w1) := Below.trans ((by repeat (first | (with_reducible exact Below.refl _ _) | (with_reducible assumption) | ((with_reducible refine Below.setCell ?_ ?_ _); rotate_left; focus (simp; done)) | ((with_reducible refine Below.alloc ?_ ?_ _); rotate_left; focus (simp; done)) | (with_reducible refine Below.drew ?_)))) (b1.mono (by simp; omega))
  clear b1
  go_wp2
  go_ret
  exact ⟨rfl, B1.out⟩

theorem ExAt.slices {k : Nat} {w : World} {S : Nat → Prop} {c : List Value} {x : Ex} (h : ExAt k w S c x) : ∃ a n m, c = exV x (.slice a n m) := by
  cases k with
  | zero => exact ⟨none, 0, 0, h.1⟩
  | succ k =>
    obtain ⟨va, hc, css, ho, -, -⟩ := h
    rcases ho.2 with ⟨rfl, _⟩ | ⟨g, cap, cur, rfl, _⟩
    · exact ⟨_, _, _, hc⟩
    · exact ⟨_, _, _, hc⟩

set_option maxHeartbeats 4000000 in
set_option maxRecDepth 100000 in
theorem exprs_by (k : Nat) (ih : ExprYes k) : ExprsYes (ExAt k) := by
  intro W S1 S2 xs a b n c m d h1 h2
  have HI := Lib.hid ih
  rcases h1.open with ⟨hv, hn⟩ | ⟨ga, ca, hv, hca, hcm, -, -, -, ha⟩
  · cases hv
    subst hn
    have hm : m = 0 := by
      rcases h2.open with ⟨hv, _⟩ | ⟨g, cap, hv, _⟩
      · cases hv; rfl
      · cases hv; rfl
    subst hm
    clear h1 h2 ih HI
    go_enter Tryz.func13, Tryz.ntmps13
    go_wp2
    refine wp_loop_rounds 1 ?_
    rw [rounds_succ]
    go_wp2
    go_ret
    exact ⟨rfl, Below.refl _ _⟩
  · cases hv
    rcases h2.open with ⟨hv, hn⟩ | ⟨gb, cb, hv, hcb, hcmb, -, -, -, hb⟩
    · cases hv
      subst hn
      clear h1 h2 ih HI ha
      go_enter Tryz.func13, Tryz.ntmps13
      go_wp2
      refine wp_loop_rounds 1 ?_
      rw [rounds_succ]
      go_wp2
      go_ret
      exact ⟨rfl, Below.refl _ _⟩
    · cases hv
      have HA := Lib.hid ha
      have HB := Lib.hid hb
      unfold maxLen at hcm hcmb
      clear h1 h2 ih ha hb
      obtain ⟨N, hN⟩ : ∃ N, N = xs.length := ⟨_, rfl⟩
      rw [← hN] at hca hcb ⊢
      have HN := Lib.hid hN
      clear hN
      have q0 : ((N : Int) == (N : Int)) = true := by simp
      go_enter Tryz.func13, Tryz.ntmps13
      go_wp2
      go_loopw [5, 6] (fun vs vi wr => ∃ k : Nat, vs = .bool true ∧ vi = .int .i64 k ∧ k ≤ N ∧ Below W.heap.size W wr) (fun _ vi _ => N - (RowKit.intOf vi).toNat)
      case atStart => exact ⟨0, by rfl, rfl, by omega, Below.refl _ _⟩
      case round =>
        obtain ⟨i, rfl, rfl, hi, hbw⟩ := hrel
        by_cases hlt : i < N
        · obtain ⟨x, hx⟩ : ∃ x, xs[i]? = some x := ⟨xs[i]'(by have := HN.out; omega), List.getElem?_eq_getElem _⟩
          obtain ⟨cA, -, pA, fA⟩ := HA.out i x hx
          obtain ⟨cB, -, pB, fB⟩ := HB.out i x hx
          obtain ⟨va, vn, vc, rfl⟩ := pA.slices
          obtain ⟨ua, un, uc, rfl⟩ := pB.slices
          have hcall : Hid (∀ W', Below W.heap.size W W' → _) := fun W' hb => HI.out W' _ _ x va ua vn vc un uc (ExAt.frames k _ _ _ _ _ _ pA fun j hs hl => ⟨hs, hb.block j hl⟩) (ExAt.frames k _ _ _ _ _ _ pB fun j hs hl => ⟨hs, hb.block j hl⟩)
          have a0 := cell_later hbw (fA 0 _ (by omega) rfl)
          have a1 := cell_later hbw (fA 1 _ (by omega) rfl)
          have a2 := cell_later hbw (fA 2 _ (by omega) rfl)
          have a3 := cell_later hbw (fA 3 _ (by omega) rfl)
          have a4 := cell_later hbw (fA 4 _ (by omega) rfl)
          have a5 := cell_later hbw (fA 5 _ (by omega) rfl)
          have a6 := cell_later hbw (fA 6 _ (by omega) rfl)
          have b0 := cell_later hbw (fB 0 _ (by omega) rfl)
          have b1 := cell_later hbw (fB 1 _ (by omega) rfl)
          have b2 := cell_later hbw (fB 2 _ (by omega) rfl)
          have b3 := cell_later hbw (fB 3 _ (by omega) rfl)
          have b4 := cell_later hbw (fB 4 _ (by omega) rfl)
          have b5 := cell_later hbw (fB 5 _ (by omega) rfl)
          have b6 := cell_later hbw (fB 6 _ (by omega) rfl)
          simp only [Nat.add_zero] at a0 b0
          clear pA pB fA fB hx
          have i1 : (i : Int) < (N : Int) := by omega
          have i0 : (0 : Int) ≤ (i : Int) := by omega
          have HBW := Lib.hid hbw
          clear hbw
          go_wp2_with fail
          go_still_tail 8, (by kernel_rfl)
          change wpList _ _ _ _ _ wr.drew
          go_wp2_with fail
          refine (hcall.out _ HBW.out.drew).mono ?_
          rintro e w2 ⟨rfl, b2⟩
          have HB2 : Hid (Below W.heap.size W w2) := HBW.out.drew.trans (b2.mono (by have := HBW.out.size; simpa using this))
          clear b2
          go_wp2
          go_roundw
          case rel => exact ⟨i + 1, by rfl, by go_num, by omega, HB2.out⟩
          case measure => simp [RowKit.intOf]; omega
        · go_wp2
          go_ret
          exact ⟨rfl, hbw⟩

theorem exprs_nil : ExprsYes (ExAt 0) → True := fun _ => trivial
theorem expr_zero : ExprYes 0 := by
  refine expr_by 0 (fun _ _ _ _ => False) (fun _ _ _ _ _ _ h _ => h) (fun W S x v h => ?_) ?_
  · obtain ⟨h1, h2⟩ := h
    have hv : v = .slice none 0 0 := exV_inj h1
    rw [hv, h2]; exact RowAt.nil _ _ _ _ _
  · intro W S1 S2 xs a b n c m d h1 h2
    rcases h1.open with ⟨hv, hn⟩ | ⟨ga, ca, hv, hca, hcm, -, -, -, ha⟩
    · cases hv
      subst hn
      have hm : m = 0 := by
        rcases h2.open with ⟨hv, _⟩ | ⟨g, cap, hv, _⟩
        · cases hv; rfl
        · cases hv; rfl
      subst hm
      clear h1 h2
      go_enter Tryz.func13, Tryz.ntmps13
      go_wp2
      refine wp_loop_rounds 1 ?_
      rw [rounds_succ]
      go_wp2
      go_ret
      exact ⟨rfl, Below.refl _ _⟩
    · cases xs with
      | nil =>
        cases hv
        have hm : m = 0 := by
          rcases h2.open with ⟨hv, _⟩ | ⟨g, cap, hv, _⟩
          · cases hv; rfl
          · cases hv; rfl
        subst hm
        clear h1 h2 ha
        simp only [List.length_nil]
        go_enter Tryz.func13, Tryz.ntmps13
        go_wp2
        refine wp_loop_rounds 1 ?_
        rw [rounds_succ]
        go_wp2
        go_ret
        exact ⟨rfl, Below.refl _ _⟩
      | cons x l =>
        obtain ⟨cc, -, hf, -⟩ := ha 0 x rfl
        exact hf.elim
theorem expr_yes : ∀ k, ExprYes k
  | 0 => expr_zero
  | k + 1 => expr_by (k + 1) (ExAt k) (ExAt.frames k) (fun W S x v h => by
      obtain ⟨va, hc, hr⟩ := h
      rw [exV_inj hc]; exact hr) (exprs_by k (expr_yes k))
theorem exprs_yes (k : Nat) : ExprsYes (ExAt k) := exprs_by k (expr_yes k)

def CardYes : Prop := ∀ (W : World) (S1 S2 : Nat → Prop) (x : Cd) (a b : Option Addr) (n c m d : Nat), CdAt W S1 (cdV x (.slice a n c)) x → CdAt W S2 (cdV x (.slice b m d)) x →
  Calls Tryz.prog 45 #[.agg #[.string x.name, .int .u8 x.kind, .int .i64 x.level, .int .i64 x.attack, .int .i64 x.guard, .slice a n c], .agg #[.string x.name, .int .u8 x.kind, .int .i64 x.level, .int .i64 x.attack, .int .i64 x.guard, .slice b m d]] W
    fun e w' => e = .returned (.bool true) ∧ Below W.heap.size W w'
theorem cdV_inj {x y : Cd} {u v : Value} (h : cdV x u = cdV y v) : u = v := by
  simp only [cdV, List.cons.injEq] at h
  exact h.2.2.2.2.2.1
theorem CdAt.slices {w : World} {S : Nat → Prop} {c : List Value} {x : Cd} (h : CdAt w S c x) : ∃ a n m, c = cdV x (.slice a n m) := by
  obtain ⟨va, hc, css, ho, -, -⟩ := h
  rcases ho.2 with ⟨rfl, _⟩ | ⟨g, cap, cur, rfl, _⟩
  · exact ⟨_, _, _, hc⟩
  · exact ⟨_, _, _, hc⟩

set_option maxHeartbeats 4000000 in
set_option maxRecDepth 100000 in
theorem cards_by (ih : CardYes) (W : World) (S1 S2 : Nat → Prop) (xs : List Cd) (a b : Option Addr) (n c m d : Nat) (h1 : RowAt W S1 38 6 CdAt (.slice a n c) xs) (h2 : RowAt W S2 38 6 CdAt (.slice b m d) xs) :
    Calls Tryz.prog 12 #[.slice a n c, .slice b m d] W fun e w' => e = .returned (.bool true) ∧ Below W.heap.size W w' := by
  have HI := Lib.hid ih
  rcases h1.open with ⟨hv, hn⟩ | ⟨ga, ca, hv, hca, hcm, -, -, -, ha⟩
  · cases hv
    subst hn
    have hm : m = 0 := by
      rcases h2.open with ⟨hv, _⟩ | ⟨g, cap, hv, _⟩
      · cases hv; rfl
      · cases hv; rfl
    subst hm
    clear h1 h2 ih HI
    go_enter Tryz.func12, Tryz.ntmps12
    go_wp2
    refine wp_loop_rounds 1 ?_
    rw [rounds_succ]
    go_wp2
    go_ret
    exact ⟨rfl, Below.refl _ _⟩
  · cases hv
    rcases h2.open with ⟨hv, hn⟩ | ⟨gb, cb, hv, hcb, hcmb, -, -, -, hb⟩
    · cases hv
      subst hn
      clear h1 h2 ih HI ha
      go_enter Tryz.func12, Tryz.ntmps12
      go_wp2
      refine wp_loop_rounds 1 ?_
      rw [rounds_succ]
      go_wp2
      go_ret
      exact ⟨rfl, Below.refl _ _⟩
    · cases hv
      have HA := Lib.hid ha
      have HB := Lib.hid hb
      unfold maxLen at hcm hcmb
      clear h1 h2 ih ha hb
      obtain ⟨N, hN⟩ : ∃ N, N = xs.length := ⟨_, rfl⟩
      rw [← hN] at hca hcb ⊢
      have HN := Lib.hid hN
      clear hN
      have q0 : ((N : Int) == (N : Int)) = true := by simp
      go_enter Tryz.func12, Tryz.ntmps12
      go_wp2
      go_loopw [5, 6] (fun vs vi wr => ∃ k : Nat, vs = .bool true ∧ vi = .int .i64 k ∧ k ≤ N ∧ Below W.heap.size W wr) (fun _ vi _ => N - (RowKit.intOf vi).toNat)
      case atStart => exact ⟨0, by rfl, rfl, by omega, Below.refl _ _⟩
      case round =>
        obtain ⟨i, rfl, rfl, hi, hbw⟩ := hrel
        by_cases hlt : i < N
        · obtain ⟨x, hx⟩ : ∃ x, xs[i]? = some x := ⟨xs[i]'(by have := HN.out; omega), List.getElem?_eq_getElem _⟩
          obtain ⟨cA, -, pA, fA⟩ := HA.out i x hx
          obtain ⟨cB, -, pB, fB⟩ := HB.out i x hx
          obtain ⟨va, vn, vc, rfl⟩ := pA.slices
          obtain ⟨ua, un, uc, rfl⟩ := pB.slices
          have hcall : Hid (∀ W', Below W.heap.size W W' → _) := fun W' hb => HI.out W' _ _ x va ua vn vc un uc (CdAt.frames _ _ _ _ _ _ pA fun j hs hl => ⟨hs, hb.block j hl⟩) (CdAt.frames _ _ _ _ _ _ pB fun j hs hl => ⟨hs, hb.block j hl⟩)
          have a0 := cell_later hbw (fA 0 _ (by omega) rfl)
          have a1 := cell_later hbw (fA 1 _ (by omega) rfl)
          have a2 := cell_later hbw (fA 2 _ (by omega) rfl)
          have a3 := cell_later hbw (fA 3 _ (by omega) rfl)
          have a4 := cell_later hbw (fA 4 _ (by omega) rfl)
          have a5 := cell_later hbw (fA 5 _ (by omega) rfl)
          have b0 := cell_later hbw (fB 0 _ (by omega) rfl)
          have b1 := cell_later hbw (fB 1 _ (by omega) rfl)
          have b2 := cell_later hbw (fB 2 _ (by omega) rfl)
          have b3 := cell_later hbw (fB 3 _ (by omega) rfl)
          have b4 := cell_later hbw (fB 4 _ (by omega) rfl)
          have b5 := cell_later hbw (fB 5 _ (by omega) rfl)
          simp only [Nat.add_zero] at a0 b0
          clear pA pB fA fB hx
          have i1 : (i : Int) < (N : Int) := by omega
          have i0 : (0 : Int) ≤ (i : Int) := by omega
          have HBW := Lib.hid hbw
          clear hbw
          go_wp2_with fail
          go_still_tail 8, (by kernel_rfl)
          change wpList _ _ _ _ _ wr.drew
          go_wp2_with fail
          refine (hcall.out _ HBW.out.drew).mono ?_
          rintro e w2 ⟨rfl, b2⟩
          have HB2 : Hid (Below W.heap.size W w2) := HBW.out.drew.trans (b2.mono (by have := HBW.out.size; simpa using this))
          clear b2
          go_wp2
          go_roundw
          case rel => exact ⟨i + 1, by rfl, by go_num, by omega, HB2.out⟩
          case measure => simp [RowKit.intOf]; omega
        · go_wp2
          go_ret
          exact ⟨rfl, hbw⟩
end Go.Proofs.YtmhpopkbmnhkkaaGreatDoor
