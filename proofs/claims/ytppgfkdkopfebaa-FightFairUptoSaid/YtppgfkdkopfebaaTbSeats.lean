/- board: placesMay says yes of pieces that may be. -/
import Derived.Test.YtppgfkdkopfebaaTbUnbroken
import Derived.Test.YtppgfkdkopfebaaTbGood
import Derived.Deep.RegionHeld3
import Derived.RegionTactic
import Derived.BigRegion
namespace Go.Proofs.Ytppgfkdkopfebaa
open Go.RowKit Go.Lib

/-- Whose places a piece is counted among: those of Limbo are one's. -/
def keyH (p : Pc) : Nat := if p.zn = 6 then 0 else p.hs
def atP (h z a : Nat) (p : Pc) : Bool := keyH p == h && p.zn == z && p.pl == (a : Int)
def atZ (h z : Nat) (p : Pc) : Bool := keyH p == h && p.zn == z
def zeroRow : List Value := List.replicate 144 (.bool false) ++ [.int .i64 0]
def zeroSeats : Array Value := (List.replicate 14 zeroRow).flatten.toArray
theorem zero_seats (w : World) : Sem.run Try.prog (zeroValue 103) w = .ok (.agg zeroSeats) w := by kernel_rfl
theorem zeroSeats_size : zeroSeats.size = 2030 := by kernel_rfl
theorem zeroSeats_get (r j : Nat) (hr : r < 14) (hj : j < 145) : zeroSeats[r * 145 + j]? = zeroRow[j]? := by
  have h := flat_get (size := 145) (List.replicate 14 zeroRow) (fun c hc => by rw [(List.mem_replicate.1 hc).2]; rfl) r j zeroRow (by rw [List.getElem?_replicate, if_pos hr]) hj
  rw [← h]
  unfold zeroSeats
  rw [List.getElem?_toArray]
theorem zeroRow_at (a : Nat) (h : a < 144) : zeroRow[a]? = some (.bool false) := by
  unfold zeroRow
  rw [List.getElem?_append_left (by simp; exact h), List.getElem?_replicate, if_pos h]
theorem zeroRow_count : zeroRow[144]? = some (.int .i64 0) := by
  unfold zeroRow
  rw [List.getElem?_append_right (by simp)]
  simp

/-- The places that are taken by some pieces. -/
structure Taken (w : World) (G : Nat) (l : List Pc) : Prop where
  blk : ∃ cs, w.heap[G]? = some (.cells cs 103 (0, 0)) ∧ cs.size = 2030 ∧
    (∀ h z a, h < 2 → z < 7 → a < 144 → cs[(h * 7 + z) * 145 + a]? = some (.bool (l.any (atP h z a)))) ∧
    (∀ h z, h < 2 → z < 7 → cs[(h * 7 + z) * 145 + 144]? = some (.int .i64 (l.countP (atZ h z) : Nat)))
theorem Taken.keep {w w' : World} {G : Nat} {l : List Pc} (h : Taken w G l) (he : w'.heap[G]? = w.heap[G]?) : Taken w' G l := by
  obtain ⟨cs, hc, r⟩ := h.blk
  exact ⟨cs, he.trans hc, r⟩
theorem Taken.lt {w : World} {G : Nat} {l : List Pc} (h : Taken w G l) : G < w.heap.size := by
  obtain ⟨cs, hc, r⟩ := h.blk
  exact heap_lt hc
theorem Taken.cells {w : World} {G : Nat} {l : List Pc} (t : Taken w G l) {h z a : Nat} (hh : h < 2) (hz : z < 7) (ha : a < 144) :
    w.cell? ⟨G, (h * 7 + z) * 145 + a, none⟩ = some (.bool (l.any (atP h z a))) ∧ w.cell? ⟨G, (h * 7 + z) * 145 + 144, none⟩ = some (.int .i64 (l.countP (atZ h z) : Nat)) ∧ w.frozen? ⟨G, (h * 7 + z) * 145 + a, none⟩ = false ∧ w.frozen? ⟨G, (h * 7 + z) * 145 + 144, none⟩ = false := by
  obtain ⟨cs, hc, hs, h1, h2⟩ := t.blk
  exact ⟨by rw [cell_blk hc]; exact h1 h z a hh hz ha, by rw [cell_blk hc]; exact h2 h z hh hz, free_blk hc, free_blk hc⟩
theorem Taken.zero {w : World} {G : Nat} (h : w.heap[G]? = some (.cells zeroSeats 103 (0, 0))) : Taken w G [] := by
  refine ⟨zeroSeats, h, zeroSeats_size, fun h z a hh hz ha => ?_, fun h z hh hz => ?_⟩
  · rw [zeroSeats_get _ _ (by omega) (by omega), zeroRow_at a ha]; rfl
  · rw [zeroSeats_get _ _ (by omega) (by omega), zeroRow_count]; rfl
theorem lin_inj {h z h' z' a a' : Nat} (hz : z < 7) (hz' : z' < 7) (ha : a < 145) (ha' : a' < 145) (e : (h * 7 + z) * 145 + a = (h' * 7 + z') * 145 + a') : h = h' ∧ z = z' ∧ a = a' := by
  have h1 : a = a' := by
    have e1 : ((h * 7 + z) * 145 + a) % 145 = a := by rw [Nat.mul_comm, Nat.mul_add_mod]; exact Nat.mod_eq_of_lt ha
    have e2 : ((h' * 7 + z') * 145 + a') % 145 = a' := by rw [Nat.mul_comm, Nat.mul_add_mod]; exact Nat.mod_eq_of_lt ha'
    omega
  omega
/-- One more place is taken. -/
theorem Taken.snoc {w : World} {G : Nat} {l : List Pc} {p : Pc} {a : Nat} (t : Taken w G l) (hk : keyH p < 2) (hz : p.zn < 7) (hp : p.pl = (a : Int)) (ha : a < 144) :
    Taken ((w.setCell ⟨G, (keyH p * 7 + p.zn) * 145 + a, none⟩ (.bool true)).setCell ⟨G, (keyH p * 7 + p.zn) * 145 + 144, none⟩ (.int .i64 (l.countP (atZ (keyH p) p.zn) + 1 : Nat))) G (l ++ [p]) := by
  obtain ⟨cs, hc, hs, h1, h2⟩ := t.blk
  refine ⟨_, heap_set (heap_set hc _) _, by simp [hs], fun h z b hh hz' hb => ?_, fun h z hh hz' => ?_⟩
  · rw [Array.getElem?_setIfInBounds_ne (by intro e; have := lin_inj hz hz' (by omega) (by omega) e; omega)]
    rw [List.any_append]
    by_cases e : (keyH p * 7 + p.zn) * 145 + a = (h * 7 + z) * 145 + b
    · have e3 := lin_inj hz hz' (by omega) (by omega) e
      rw [e, Array.getElem?_setIfInBounds_self_of_lt (by rw [hs]; omega)]
      have : atP h z b p = true := by simp [atP, hp, e3.1, e3.2.1, e3.2.2]
      simp [this]
    · rw [Array.getElem?_setIfInBounds_ne e, h1 h z b hh hz' hb]
      have : atP h z b p = false := by
        by_cases hx : keyH p = h ∧ p.zn = z ∧ a = b
        · exact absurd (by rw [hx.1, hx.2.1, hx.2.2]) e
        · simp only [atP, hp, Bool.and_eq_false_iff, beq_eq_false_iff_ne]
          omega
      simp [this]
  · rw [List.countP_append]
    by_cases e : (keyH p * 7 + p.zn) * 145 + 144 = (h * 7 + z) * 145 + 144
    · have e3 := lin_inj hz hz' (by omega) (by omega) e
      rw [e, Array.getElem?_setIfInBounds_self_of_lt (by simp [hs]; omega)]
      have : atZ h z p = true := by simp [atZ, e3.1, e3.2.1]
      simp [this, e3.1, e3.2.1]
    · rw [Array.getElem?_setIfInBounds_ne e, Array.getElem?_setIfInBounds_ne (by intro e'; have := lin_inj hz hz' (by omega) (by omega) e'; omega), h2 h z hh hz']
      have : atZ h z p = false := by
        by_cases hx : keyH p = h ∧ p.zn = z
        · exact absurd (by rw [hx.1, hx.2]) e
        · simp only [atZ, Bool.and_eq_false_iff, beq_eq_false_iff_ne]
          omega
      simp [this]
end Go.Proofs.Ytppgfkdkopfebaa
