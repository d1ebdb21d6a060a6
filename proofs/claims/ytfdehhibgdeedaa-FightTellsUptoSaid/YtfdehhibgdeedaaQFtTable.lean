import Derived.Test.YtfdehhibgdeedaaQFtAtt
import Derived.Test.YtfdehhibgdeedaaQDkInts
/- The table that the document tells of; the law's great; fights of a table that may be. -/
namespace Go.Proofs.Ytfdehhibgdeedaa
open Go.RowKit Go.Lib

def oneX : List Cd := [⟨⟨#[111, 103, 114, 101]⟩, 0, 4, 0, 0, []⟩]
def p0F : Pc := ⟨0, 1500, 0, 0, 0, 2, 0, true, false, 0, 0, false, false, 0⟩
def p1F (lw : Bool) : Pc := ⟨0, 1200, 1800, 1, 1, 2, 0, true, lw, 0, 0, false, false, 0⟩
def twoF (lw : Bool) : List Pc := [p0F, p1F lw]
/-- A row out of one block. -/
theorem row_of_block {α : Type} {w : World} {size B : Nat} {P : World → List Value → α → Prop} {ty : TypeId} {b cap : Nat} {css : List (List Value)} {xs : List α} (hb : w.heap[b]? = some (.cells css.flatten.toArray ty (0, 0)))
    (hl : xs.length = css.length) (hs : ∀ c ∈ css, c.length = size) (hp : ∀ (i : Nat) (c : List Value) (x : α), css[i]? = some c → xs[i]? = some x → P w c x) (h1 : xs.length ≤ maxLen) (h2 : xs.length * B ≤ 140737488351232) : RowIn w size B P (.slice (some ⟨b, 0, none⟩) xs.length cap) xs := by
  refine ⟨_, _, rfl, h1, h2, fun i x hx => ?_⟩
  obtain ⟨c, hc⟩ : ∃ c, css[i]? = some c := ⟨css[i]'(by have := (List.getElem?_eq_some_iff.1 hx).1; omega), List.getElem?_eq_getElem _⟩
  have hcs := hs c (List.mem_of_getElem? hc)
  refine ⟨b, 0, rfl, c, hcs, hp i c x hc hx, fun j u hu => ?_⟩
  rw [cell_blk hb, Nat.zero_add, List.getElem?_toArray, flat_get css hs i j c hc (by rw [← hcs]; exact (List.getElem?_eq_some_iff.1 hu).1)]
  exact hu

set_option maxHeartbeats 4000000 in
set_option maxRecDepth 100000 in
theorem ftable_any (lw : Bool) (w : World) : Calls Try.prog 18 #[.bool lw] w fun e w' => (∃ t : Tb, e = .returned (.agg t.row) ∧ TabIn w' t oneX (twoF lw) ∧ LifeOk t) ∧ Below w.heap.size w w' := by
  go_enter Try.func18, Try.ntmps18
  go_wp2_with fail
  obtain ⟨W, hW⟩ : ∃ W, W = ((((w.alloc (.cells #[.slice (some ⟨w.heap.size + 1, 0, none⟩) 1 1, .slice (some ⟨w.heap.size + 1 + 1 + 1, 0, none⟩) 2 2, .int .i64 0, .int .i64 0, .int .i64 2, .int .u8 0, .int .i64 0, .slice none 0 0, .bool false, .bool false] 28)).alloc (.cells #[.string ⟨#[111, 103, 114, 101]⟩, .int .u8 0, .int .i64 4, .int .i64 0, .int .i64 0, .slice none 0 0] 62)).alloc (.cells #[.slice (some ⟨w.heap.size + 1, 0, none⟩) 1 1, .slice (some ⟨w.heap.size + 1 + 1 + 1, 0, none⟩) 2 2, .int .i64 0, .int .i64 0, .int .i64 2, .int .u8 0, .int .i64 0, .slice none 0 0, .bool false, .bool false] 28)).alloc (.cells #[.int .i64 0, .int .i64 1500, .int .i64 0, .int .u8 0, .int .u8 0, .int .u8 2, .int .i64 0, .bool true, .bool false, .int .i64 0, .int .u8 0, .bool false, .bool false, .int .i64 0, .int .i64 0, .int .i64 1200, .int .i64 1800, .int .u8 1, .int .u8 1, .int .u8 2, .int .i64 0, .bool true, .bool lw, .int .i64 0, .int .u8 0, .bool false, .bool false, .int .i64 0] 45)) := ⟨_, rfl⟩
  rw [← hW]
  have hb : Below w.heap.size w W := by rw [hW]; exact ((((Below.refl _ w).alloc (by simp; try omega) _).alloc (by simp; try omega) _).alloc (by simp; try omega) _).alloc (by simp; try omega) _
  have h0 : W.heap[w.heap.size]? = some (.cells #[.slice (some ⟨w.heap.size + 1, 0, none⟩) 1 1, .slice (some ⟨w.heap.size + 1 + 1 + 1, 0, none⟩) 2 2, .int .i64 0, .int .i64 0, .int .i64 2, .int .u8 0, .int .i64 0, .slice none 0 0, .bool false, .bool false] 28 (0, 0)) := by rw [hW]; exact heap_older (heap_older (heap_older (heap_newer _ _ _ (by simp))))
  have h1 : W.heap[w.heap.size + 1]? = some (.cells #[.string ⟨#[111, 103, 114, 101]⟩, .int .u8 0, .int .i64 4, .int .i64 0, .int .i64 0, .slice none 0 0] 62 (0, 0)) := by rw [hW]; exact heap_older (heap_older (heap_newer _ _ _ (by simp)))
  have h3 : W.heap[w.heap.size + 1 + 1 + 1]? = some (.cells #[.int .i64 0, .int .i64 1500, .int .i64 0, .int .u8 0, .int .u8 0, .int .u8 2, .int .i64 0, .bool true, .bool false, .int .i64 0, .int .u8 0, .bool false, .bool false, .int .i64 0, .int .i64 0, .int .i64 1200, .int .i64 1800, .int .u8 1, .int .u8 1, .int .u8 2, .int .i64 0, .bool true, .bool lw, .int .i64 0, .int .u8 0, .bool false, .bool false, .int .i64 0] 45 (0, 0)) := by rw [hW]; exact heap_newer _ _ _ (by simp)
  clear hW
  refine bodyPost_ret (results_cell_row rfl _ _ w.heap.size _ _ _ _ rfl h0 rfl rfl (by kernel_rfl)) rfl ?_
  refine ⟨⟨⟨some ⟨w.heap.size + 1, 0, none⟩, 1, 1, some ⟨w.heap.size + 1 + 1 + 1, 0, none⟩, 2, 2, 0, 0, 2, 0, 0, none, 0, 0, false, false⟩, rfl, ⟨⟨1, ?_⟩, ?_, by cases lw <;> decide⟩, ⟨by dsimp only; omega, by dsimp only; omega, by dsimp only; omega, by dsimp only; omega⟩⟩, hb⟩
  · refine row_of_block (xs := oneX) (css := [[.string ⟨#[111, 103, 114, 101]⟩, .int .u8 0, .int .i64 4, .int .i64 0, .int .i64 0, .slice none 0 0]]) h1 rfl (by simp) (fun i c x hc hx => ?_) (by decide) (by decide)
    match i, hc, hx with
    | 0, hc, hx =>
      simp at hc; subst hc
      simp [oneX] at hx; subst hx
      exact ⟨_, rfl, by decide, RowIn.nil _ _ _ _ _ _⟩
    | i + 1, hc, hx => simp at hc
  · refine row_of_block (xs := twoF lw) (css := [[.int .i64 0, .int .i64 1500, .int .i64 0, .int .u8 0, .int .u8 0, .int .u8 2, .int .i64 0, .bool true, .bool false, .int .i64 0, .int .u8 0, .bool false, .bool false, .int .i64 0], [.int .i64 0, .int .i64 1200, .int .i64 1800, .int .u8 1, .int .u8 1, .int .u8 2, .int .i64 0, .bool true, .bool lw, .int .i64 0, .int .u8 0, .bool false, .bool false, .int .i64 0]]) h3 rfl (by simp) (fun i c x hc hx => ?_) (by cases lw <;> decide) (by cases lw <;> decide)
    match i, hc, hx with
    | 0, hc, hx => simp at hc; subst hc; simp [twoF] at hx; subst hx; rfl
    | 1, hc, hx => simp at hc; subst hc; simp [twoF] at hx; subst hx; rfl
    | i + 2, hc, hx => simp at hc
theorem two_good (lw : Bool) : GoodB oneX (twoF lw) := by
  refine ⟨by cases lw <;> decide, ?_, ?_, ?_, by cases lw <;> decide⟩
  · intro p hp
    simp [twoF] at hp
    rcases hp with rfl | rfl <;> cases lw <;> exact ⟨by decide, by decide, by decide, by decide, by decide, by decide, by decide, by decide, by decide, by decide, by decide, by decide, by decide⟩
  · intro p hp _ _
    simp [twoF] at hp
    rcases hp with rfl | rfl <;> cases lw <;> decide
  · intro p hp _ _ _
    simp [twoF] at hp
    rcases hp with rfl | rfl <;> cases lw <;> decide
theorem one_few : FewIn oneX := by
  intro x hx
  simp [oneX] at hx
  subst hx
  exact ⟨by decide, fun e he => by simp at he⟩
theorem atk0 (lw : Bool) : attackA oneX (twoF lw) p0F 0 = 1500 := by cases lw <;> decide
theorem atk1 (lw : Bool) : attackA oneX (twoF lw) (p1F lw) 1 = 1200 := by cases lw <;> decide

/-- What a fight of two comes to. -/
def outTwo (xs : List Cd) (ps : List Pc) (p q : Pc) (a d : Nat) : FO := if q.lw = true then guardO (attackA xs ps p a) q.gd p.hs d else attackO (attackA xs ps p a) (attackA xs ps q d) p.hs q.hs a d
theorem attack_bd {xs : List Cd} {ps : List Pc} {p : Pc} {id : Nat} (h : 0 ≤ p.ak ∧ p.ak ≤ 99999) : 0 ≤ attackA xs ps p id ∧ attackA xs ps p id ≤ 99999 := by
  have h1 := attack_ge (xs := xs) (ps := ps) (p := p) (id := id) h
  refine ⟨Int.le_trans ?_ h1.1, h1.2.1⟩
  unfold bareN
  omega
set_option maxHeartbeats 1000000 in
theorem outcome_two (t : Tb) (xs : List Cd) (ps : List Pc) (a d : Nat) (p q : Pc) (w : World) (hT : TabIn w t xs ps) (hL : LifeOk t) (hG : GoodB xs ps) (hfew : FewIn xs) (hi : ps[a]? = some p) (hj : ps[d]? = some q) (hatt : attB p = true) (hopp : tarB q (1 - p.hs) = true) :
    Calls Try.prog 9 #[.agg t.row, .int .i64 a, .int .i64 d] w (OutEnds (outTwo xs ps p q a d) 0 w) := by
  have hp := hG.one p (List.mem_of_getElem? hi)
  have hq := hG.one q (List.mem_of_getElem? hj)
  have hfm := fun (W : World) (hb : Below w.heap.size w W) => by
    have := fm_two t xs ps a d p q W (hT.below hb) hL hG hi hatt hj
    rwa [hopp] at this
  have hA := fun (W : World) (hb : Below w.heap.size w W) => attack_may t xs ps a p W (hT.below hb) hL hG hi hfew
  have hdl : d < t.np := by rw [hT.np.1]; exact (List.getElem?_eq_some_iff.1 hj).1
  have hlow : ∃ g o, t.qp = some ⟨g, o, none⟩ ∧ w.cell? ⟨g, o + d * 14 + 8, none⟩ = some (.bool q.lw) := by
    obtain ⟨g, o, hq', -, hc⟩ := hT.piece hj
    exact ⟨g, o, hq', hc 8 _ rfl⟩
  unfold outTwo
  cases hlw : q.lw with
  | true =>
    rw [if_pos rfl]
    rw [hlw] at hlow
    exact out_low t w a d _ (fun W hb => againstGuard_any t a d _ q.gd p.hs W (fun W' hb' => hA W' (hb.trans (hb'.mono hb.size))) (fun W' hb' => guard_may t xs ps d q W' (hT.below (hb.trans (hb'.mono hb.size))) hL hG hj) hp.hs ((hT.below hb).has hi) (attack_bd hp.ak) hq.gd) hdl hlow hfm
  | false =>
    rw [if_neg (by simp)]
    rw [hlw] at hlow
    exact out_high t w a d _ (fun W hb => againstAttack_any t a d _ _ p.hs q.hs W (fun W' hb' => hA W' (hb.trans (hb'.mono hb.size))) (fun W' hb' => attack_may t xs ps d q W' (hT.below (hb.trans (hb'.mono hb.size))) hL hG hj hfew) hp.hs ((hT.below hb).has hi) hq.hs ((hT.below hb).has hj) (attack_bd hp.ak) (attack_bd hq.ak)) hdl hlow hfm
theorem outcome_nobody (t : Tb) (xs : List Cd) (ps : List Pc) (a : Nat) (p : Pc) (w : World) (hT : TabIn w t xs ps) (hL : LifeOk t) (hG : GoodB xs ps) (hfew : FewIn xs) (hi : ps[a]? = some p) (hatt : attB p = true) :
    Calls Try.prog 9 #[.agg t.row, .int .i64 a, .int .i64 (-1)] w (OutEnds (harmOf (1 - p.hs) (attackA xs ps p a), []) 0 w) :=
  out_nobody t a _ p.hs w (fun W hb => attack_may t xs ps a p W (hT.below hb) hL hG hi hfew) (hG.one p (List.mem_of_getElem? hi)).hs (hT.has hi) fun W hb => fm_nobody t xs ps a p W (hT.below hb) hL hG hi hatt

def BoolEnds (w : World) (e : Ending) (w' : World) : Prop := (∃ b, e = .returned (.bool b)) ∧ Below w.heap.size w w'
set_option maxHeartbeats 1000000 in
theorem fgreat_any (t : Tb) (w : World) : Calls Try.prog 6 #[.agg t.row] w (BoolEnds w) := by
  simp only [Tb.row]
  by_cases h1 : (t.np : Int) > 149
  · go_enter Try.func6, Try.ntmps6
    go_wp2_with fail
    go_ret
    exact ⟨⟨_, rfl⟩, (Below.refl _ _).alloc (Nat.le_refl _) _⟩
  by_cases h2 : (t.nk : Int) > 100
  · go_enter Try.func6, Try.ntmps6
    go_wp2_with fail
    go_ret
    exact ⟨⟨_, rfl⟩, (Below.refl _ _).alloc (Nat.le_refl _) _⟩
  · go_enter Try.func6, Try.ntmps6
    go_wp2_with fail
    go_ret
    exact ⟨⟨_, rfl⟩, (Below.refl _ _).alloc (Nat.le_refl _) _⟩
end Go.Proofs.Ytfdehhibgdeedaa
