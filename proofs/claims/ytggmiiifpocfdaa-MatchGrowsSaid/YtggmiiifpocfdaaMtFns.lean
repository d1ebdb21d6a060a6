/- What a side asks, as closures: match.sides, asking, fitting, walked. -/
import Derived.Test.YtggmiiifpocfdaaTbPieces
import Derived.Test.YtggmiiifpocfdaaTbApp
import Derived.Deep.RegionHeld3
import Derived.Laws.EntriesVeiled
import Derived.Shelf.Abstract
namespace Go.Proofs.Ytggmiiifpocfdaa
open Go.RowKit Go.Lib Go.Shelf

/-- What one side asks of somebody and of a piece. -/
def askB (who id side x y : Int) : Bool :=
  if 1 < who then false else if side = 0 then x == who else if side = 1 then x == 1 - who else if side = 2 then true else if side = 3 then y == id else false
def fitB (who id ev side : Int) (e : Ev) : Bool := ev != 0 && ((e.1 : Int) == ev && askB who id side e.2.2.2 e.2.2.1)

/-- A function value that asks of somebody and of a piece. -/
def AskF (w : World) (v : Value) (p : Int → Int → Bool) : Prop := ∃ g lb, v = .func (.func g) #[] lb ∧ (∀ args W, (callFunc g args).run Try.prog W = .ok (.enter g args) W) ∧
  ∀ W, Below w.heap.size w W → ∀ (x : Nat) (y : Int), x ≤ 255 → Calls Try.prog g (#[.int .u8 x, .int .i64 y] ++ lb) W fun e W' => e = .returned (.bool (p x y)) ∧ W' = W
/-- A function value that asks of an event. -/
def FitF (w : World) (v : Value) (p : Ev → Bool) : Prop := ∃ g lb, v = .func (.func g) #[] lb ∧ (∀ args W, (callFunc g args).run Try.prog W = .ok (.enter g args) W) ∧
  ∀ W, Below w.heap.size w W → ∀ (x : Ev), x.2.2.2 ≤ 255 → Calls Try.prog g (#[.agg (evV x).toArray] ++ lb) W fun e W' => e = .returned (.bool (p x)) ∧ Below W.heap.size W W'
theorem AskF.later {w W : World} {v : Value} {p : Int → Int → Bool} (h : AskF w v p) (hb : Below w.heap.size w W) : AskF W v p := by
  obtain ⟨g, lb, hv, he, h⟩ := h
  exact ⟨g, lb, hv, he, fun W' hb' => h W' (hb.trans (hb'.mono hb.size))⟩
theorem FitF.later {w W : World} {v : Value} {p : Ev → Bool} (h : FitF w v p) (hb : Below w.heap.size w W) : FitF W v p := by
  obtain ⟨g, lb, hv, he, h⟩ := h
  exact ⟨g, lb, hv, he, fun W' hb' => h W' (hb.trans (hb'.mono hb.size))⟩

theorem side0_any (b : Nat) (who : Int) (x : Nat) (y : Int) (w : World) (hc : w.cell? ⟨b, 0, none⟩ = some (.int .u8 who)) :
    Calls Try.prog 20 #[.int .u8 x, .int .i64 y, .pointer (some ⟨b, 0, none⟩)] w fun e w' => e = .returned (.bool ((x : Int) == who)) ∧ w' = w := by
  go_enter Try.func20, Try.ntmps20
  go_wp2
  go_ret
  exact ⟨rfl, rfl⟩
theorem other_any (who : Int) (w : World) (h0 : 0 ≤ who) (h1 : who ≤ 1) :
    Calls Try.prog 22 #[.int .u8 who] w fun e w' => e = .returned (.int .u8 (1 - who)) ∧ w' = w := by
  go_enter Try.func22, Try.ntmps22
  go_wp2
  go_ret
  exact ⟨rfl, rfl⟩
theorem side1_any (b : Nat) (who : Int) (x : Nat) (y : Int) (w : World) (h0 : 0 ≤ who) (h1 : who ≤ 1) (hc : w.cell? ⟨b, 0, none⟩ = some (.int .u8 who)) :
    Calls Try.prog 21 #[.int .u8 x, .int .i64 y, .pointer (some ⟨b, 0, none⟩)] w fun e w' => e = .returned (.bool ((x : Int) == 1 - who)) ∧ w' = w := by
  go_enter Try.func21, Try.ntmps21
  go_wp2_with (go_at_call 22; refine (other_any who _ h0 h1).mono ?_; rintro e w' ⟨rfl, rfl⟩)
  go_ret
  exact ⟨rfl, rfl⟩
theorem side2_any (x : Nat) (y : Int) (w : World) :
    Calls Try.prog 23 #[.int .u8 x, .int .i64 y] w fun e w' => e = .returned (.bool true) ∧ w' = w := by
  go_enter Try.func23, Try.ntmps23
  go_wp2
  go_ret
  exact ⟨rfl, rfl⟩
theorem side3_any (b : Nat) (id : Int) (x : Nat) (y : Int) (w : World) (hc : w.cell? ⟨b, 0, none⟩ = some (.int .i64 id)) :
    Calls Try.prog 24 #[.int .u8 x, .int .i64 y, .pointer (some ⟨b, 0, none⟩)] w fun e w' => e = .returned (.bool (y == id)) ∧ w' = w := by
  go_enter Try.func24, Try.ntmps24
  go_wp2
  go_ret
  exact ⟨rfl, rfl⟩
theorem noside_any (x : Nat) (y : Int) (w : World) :
    Calls Try.prog 19 #[.int .u8 x, .int .i64 y] w fun e w' => e = .returned (.bool false) ∧ w' = w := by
  go_enter Try.func19, Try.ntmps19
  go_wp2
  go_ret
  exact ⟨rfl, rfl⟩

def SidesV (B : Nat) : Value := .agg #[.func (.func 20) #[] #[.pointer (some ⟨B, 0, none⟩)], .func (.func 21) #[] #[.pointer (some ⟨B, 0, none⟩)], .func (.func 23) #[] #[], .func (.func 24) #[] #[.pointer (some ⟨B + 1, 0, none⟩)]]
set_option maxHeartbeats 1000000 in
theorem sides_any (who id : Int) (w : World) :
    Calls Try.prog 18 #[.int .u8 who, .int .i64 id] w fun e w' => e = .returned (SidesV w.heap.size) ∧ Below w.heap.size w w' ∧ w'.cell? ⟨w.heap.size, 0, none⟩ = some (.int .u8 who) ∧ w'.cell? ⟨w.heap.size + 1, 0, none⟩ = some (.int .i64 id) ∧ w.heap.size + 2 ≤ w'.heap.size := by
  go_enter Try.func18, Try.ntmps18
  go_wp2
  refine bodyPost_ret (v := SidesV w.heap.size) (by simp [SidesV, results, Try.results18, go_sem]) rfl ⟨rfl, ?_, ?_, ?_, ?_⟩
  · exact (((Below.refl _ _).alloc (Nat.le_refl _) _).alloc (by simp) _).alloc (by simp; omega) _
  · exact cell_blk (heap_older (heap_older (heap_alloc_new _ _)))
  · exact cell_blk (heap_older (heap_newer _ _ _ (by simp)))
  · simp

theorem enters0 : ∀ args W, (callFunc 20 args).run Try.prog W = .ok (.enter 20 args) W := enters_of Try.func20 (by kernel_rfl) rfl
theorem enters1 : ∀ args W, (callFunc 21 args).run Try.prog W = .ok (.enter 21 args) W := enters_of Try.func21 (by kernel_rfl) rfl
theorem enters2 : ∀ args W, (callFunc 23 args).run Try.prog W = .ok (.enter 23 args) W := enters_of Try.func23 (by kernel_rfl) rfl
theorem enters3 : ∀ args W, (callFunc 24 args).run Try.prog W = .ok (.enter 24 args) W := enters_of Try.func24 (by kernel_rfl) rfl
theorem entersN : ∀ args W, (callFunc 19 args).run Try.prog W = .ok (.enter 19 args) W := enters_of Try.func19 (by kernel_rfl) rfl

theorem cell_alloc {w : World} (o : Obj) {a : Addr} {v : Value} (h : w.cell? a = some v) : (w.alloc o).cell? a = some v := below_cell' ((Below.refl w.heap.size w).alloc (Nat.le_refl _) o) h (World.block_lt_of_cell? _ _ h)
/-- What the five closures ask, each. -/
theorem ask0 {w : World} {b : Nat} {who id : Int} (h1 : who ≤ 1) (hb : b < w.heap.size) (hc : w.cell? ⟨b, 0, none⟩ = some (.int .u8 who)) : AskF w (.func (.func 20) #[] #[.pointer (some ⟨b, 0, none⟩)]) (askB who id 0) :=
  ⟨_, _, rfl, enters0, fun W hW x y _ => (side0_any b who x y W ((hW.cell (p := ⟨b, 0, none⟩) hb).trans hc)).mono fun e w' ⟨he, hw⟩ => ⟨by rw [he]; unfold askB; rw [if_neg (by omega), if_pos rfl], hw⟩⟩
theorem ask1 {w : World} {b : Nat} {who id : Int} (h0 : 0 ≤ who) (h1 : who ≤ 1) (hb : b < w.heap.size) (hc : w.cell? ⟨b, 0, none⟩ = some (.int .u8 who)) : AskF w (.func (.func 21) #[] #[.pointer (some ⟨b, 0, none⟩)]) (askB who id 1) :=
  ⟨_, _, rfl, enters1, fun W hW x y _ => (side1_any b who x y W h0 h1 ((hW.cell (p := ⟨b, 0, none⟩) hb).trans hc)).mono fun e w' ⟨he, hw⟩ => ⟨by rw [he]; unfold askB; rw [if_neg (by omega), if_neg (by decide), if_pos rfl], hw⟩⟩
theorem ask2 {w : World} {who id : Int} (h1 : who ≤ 1) : AskF w (.func (.func 23) #[] #[]) (askB who id 2) :=
  ⟨_, _, rfl, enters2, fun W _ x y _ => (side2_any x y W).mono fun e w' ⟨he, hw⟩ => ⟨by rw [he]; unfold askB; rw [if_neg (by omega), if_neg (by decide), if_neg (by decide), if_pos rfl], hw⟩⟩
theorem ask3 {w : World} {b : Nat} {who id : Int} (h1 : who ≤ 1) (hb : b < w.heap.size) (hc : w.cell? ⟨b, 0, none⟩ = some (.int .i64 id)) : AskF w (.func (.func 24) #[] #[.pointer (some ⟨b, 0, none⟩)]) (askB who id 3) :=
  ⟨_, _, rfl, enters3, fun W hW x y _ => (side3_any b id x y W ((hW.cell (p := ⟨b, 0, none⟩) hb).trans hc)).mono fun e w' ⟨he, hw⟩ => ⟨by rw [he]; unfold askB; rw [if_neg (by omega), if_neg (by decide), if_neg (by decide), if_neg (by decide), if_pos rfl], hw⟩⟩
theorem askN {w : World} {who id side : Int} (h : 1 < who ∨ side < 0 ∨ 3 < side) : AskF w (.func (.func 19) #[] #[]) (askB who id side) :=
  ⟨_, _, rfl, entersN, fun W _ x y _ => (noside_any x y W).mono fun e w' ⟨he, hw⟩ => ⟨by
    rw [he]; unfold askB
    by_cases h1 : 1 < who
    · rw [if_pos h1]
    · rw [if_neg h1, if_neg (by omega), if_neg (by omega), if_neg (by omega), if_neg (by omega)], hw⟩⟩

def AskEnds (who id side : Int) (w : World) (e : Ending) (w' : World) : Prop := (∃ v, e = .returned v ∧ AskF w' v (askB who id side)) ∧ Below w.heap.size w w'
set_option maxHeartbeats 2000000 in
theorem asking_any (who id side : Int) (w : World) (hw : 0 ≤ who ∧ who ≤ 255) (hs : 0 ≤ side ∧ side ≤ 255) :
    Calls Try.prog 15 #[.int .u8 who, .int .i64 id, .int .u8 side] w (AskEnds who id side w) := by
  have w0 := hw.1
  have w1 := hw.2
  have s0 := hs.1
  have s1 := hs.2
  clear hw hs
  by_cases h1 : 1 < who
  · go_enter Try.func15, Try.ntmps15
    go_wp2_with (go_at_call 18; refine (sides_any who id _).mono ?_; rintro e w2 ⟨rfl, b2, -, -, -⟩; unfold SidesV)
    go_ret
    exact ⟨⟨_, rfl, askN (.inl h1)⟩, b2.alloc b2.size _⟩
  · by_cases h3 : 4 ≤ side
    · go_enter Try.func15, Try.ntmps15
      go_wp2_with (go_at_call 18; refine (sides_any who id _).mono ?_; rintro e w2 ⟨rfl, b2, -, -, -⟩; unfold SidesV)
      go_ret
      exact ⟨⟨_, rfl, askN (.inr (.inr (by omega)))⟩, b2.alloc b2.size _⟩
    · have hc : side = 0 ∨ side = 1 ∨ side = 2 ∨ side = 3 := by omega
      have h1' : who ≤ 1 := by omega
      rcases hc with rfl | rfl | rfl | rfl
      · go_enter Try.func15, Try.ntmps15
        go_wp2_with (go_at_call 18; refine (sides_any who id _).mono ?_; rintro e w2 ⟨rfl, b2, c1, c2, z⟩; unfold SidesV; have C1 := Lib.hid c1; have C2 := Lib.hid c2; have Z := Lib.hid z; clear c1 c2 z)
        go_ret
        exact ⟨⟨_, rfl, (ask0 h1' (by have := Z.out; simp; omega) (cell_alloc _ C1.out))⟩, b2.alloc b2.size _⟩

      · go_enter Try.func15, Try.ntmps15
        go_wp2_with (go_at_call 18; refine (sides_any who id _).mono ?_; rintro e w2 ⟨rfl, b2, c1, c2, z⟩; unfold SidesV; have C1 := Lib.hid c1; have C2 := Lib.hid c2; have Z := Lib.hid z; clear c1 c2 z)
        go_ret
        exact ⟨⟨_, rfl, (ask1 w0 h1' (by have := Z.out; simp; omega) (cell_alloc _ C1.out))⟩, b2.alloc b2.size _⟩

      · go_enter Try.func15, Try.ntmps15
        go_wp2_with (go_at_call 18; refine (sides_any who id _).mono ?_; rintro e w2 ⟨rfl, b2, c1, c2, z⟩; unfold SidesV; have C1 := Lib.hid c1; have C2 := Lib.hid c2; have Z := Lib.hid z; clear c1 c2 z)
        go_ret
        exact ⟨⟨_, rfl, (ask2 h1')⟩, b2.alloc b2.size _⟩

      · go_enter Try.func15, Try.ntmps15
        go_wp2_with (go_at_call 18; refine (sides_any who id _).mono ?_; rintro e w2 ⟨rfl, b2, c1, c2, z⟩; unfold SidesV; have C1 := Lib.hid c1; have C2 := Lib.hid c2; have Z := Lib.hid z; clear c1 c2 z)
        go_ret
        exact ⟨⟨_, rfl, (ask3 h1' (by have := Z.out; simp; omega) (cell_alloc _ C2.out))⟩, b2.alloc b2.size _⟩
end Go.Proofs.Ytggmiiifpocfdaa
