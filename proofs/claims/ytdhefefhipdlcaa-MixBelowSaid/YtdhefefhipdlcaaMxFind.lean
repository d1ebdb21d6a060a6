/- slices.BinarySearch and slices.Delete of a row of numbers of the own. -/
import Derived.Test.YtdhefefhipdlcaaShelf
import Derived.Test.YtdhefefhipdlcaaMxInts
import Derived.Test.YtdhefefhipdlcaaMxLotsMath
namespace Go.Proofs.Ytdhefefhipdlcaa
open Go.RowKit Go.Lib Go.Sort

theorem find_any (g cap : Nat) (zs : List Int) (x : Int) (w : World) (h : IG w g cap zs) (hs : zs.Pairwise (· < ·)) (hf : zs.length ≤ 1000) :
    Calls Try.prog 29 #[.slice (some ⟨g, 0, none⟩) zs.length cap, iv x] w fun e w' => e = .returned (.tuple #[.int .i64 (zs.countP (· < x) : Nat), .bool (zs.contains x)]) ∧ ∃ q, w' = w.drewN q := by
  have := Try.slices_BinarySearch_int g 0 zs.length cap zs x w (Nat.le_refl _) (by omega) (fun j hj => by
    rw [Nat.zero_add]
    have e : zs[j]? = some (zs.getD j 0) := by simp [List.getD, List.getElem?_eq_getElem hj]
    exact h.cell e) (by rw [List.take_length]; exact hs.imp (fun h => by omega))
  rw [List.take_length] at this
  exact this

theorem put_get (d : List Int) (cur : Array Value) (i : Nat) : (putCells (Value.int .i64) 0 d.toArray cur)[i]? = if i < d.length then cur[i]?.map (fun _ => iv (d.getD i 0)) else cur[i]? := by
  unfold putCells
  rw [Array.getElem?_mapIdx]
  cases hc : cur[i]? with
  | none => simp
  | some v =>
    simp only [Option.map_some, Nat.zero_le, true_and, Nat.zero_add, List.size_toArray, Nat.sub_zero]
    by_cases hi : i < d.length
    · rw [if_pos hi, if_pos hi]
      simp [List.getD, hi]
    · rw [if_neg hi, if_neg hi]
theorem del_any (g cap k : Nat) (zs : List Int) (w : World) (h : IG w g cap zs) (hk : k < zs.length) :
    Calls Try.prog 30 #[.slice (some ⟨g, 0, none⟩) zs.length cap, .int .i64 (k : Int), .int .i64 ((k + 1 : Nat) : Int)] w fun e w' => e = .returned (.slice (some ⟨g, 0, none⟩) (zs.length - 1) cap) ∧ IG w' g cap (zs.eraseIdx k) ∧ Kept g w w' := by
  obtain ⟨cur, hb, hsz, hl, hm, ht⟩ := id h
  have hH : Holds (Value.int .i64) w g 0 zs.toArray := fun j hj => by
    rw [Nat.zero_add]
    have hj' : j < zs.length := by simpa using hj
    exact ⟨by rw [h.cell (List.getElem?_eq_getElem hj')]; simp [hj'], h.free j⟩
  refine (Try.slices_Delete_int g 0 cap k (k + 1) zs w hH hl (by unfold maxLen at hm; omega) (by omega) (by omega)).mono fun e w' ⟨he, q, hw⟩ => ?_
  subst hw
  have e1 : k + 1 - k = 1 := by omega
  rw [e1] at he ⊢
  have hbl : (putRow (Value.int .i64) (Sort.ahead w q) g 0 (zs.take k ++ zs.drop (k + 1) ++ List.replicate 1 0).toArray).heap[g]? = some (.cells (putCells (Value.int .i64) 0 (zs.take k ++ zs.drop (k + 1) ++ List.replicate 1 0).toArray cur) 3 (0, 0)) := by
    simp [putRow, mapBlock, Sort.ahead, Array.getElem?_modify, hb, onCells]
  have hel : (zs.eraseIdx k).length = zs.length - 1 := List.length_eraseIdx_of_lt hk
  have hee := List.eraseIdx_eq_take_drop_succ zs k
  refine ⟨he, ⟨_, hbl, by simp [putCells, hsz], by omega, hm, ?_⟩, ⟨rfl, rfl, rfl, by simp [putRow, mapBlock, Sort.ahead], fun i _ hne => by
    simp [putRow, mapBlock, Sort.ahead, Array.getElem?_modify, Ne.symm hne]⟩⟩
  apply List.ext_getElem?
  intro i
  by_cases hi : i < zs.length - 1
  · rw [hel, List.getElem?_take_of_lt hi, Array.getElem?_toList, put_get, List.getElem?_map, hee]
    have hd : (zs.take k ++ zs.drop (k + 1) ++ List.replicate 1 (0 : Int)).length = zs.length := by simp; omega
    rw [hd, if_pos (by omega)]
    have hc : ∃ v, cur[i]? = some v := ⟨_, Array.getElem?_eq_getElem (by omega)⟩
    obtain ⟨v, hv⟩ := hc
    rw [hv, Option.map_some]
    have hlt : i < (zs.take k ++ zs.drop (k + 1)).length := by simp; omega
    simp only [List.getD]
    rw [List.getElem?_append_left hlt, List.getElem?_eq_getElem hlt]
    rfl
  · rw [List.getElem?_eq_none (by rw [List.length_take]; omega), List.getElem?_eq_none (by rw [List.length_map]; omega)]
end Go.Proofs.Ytdhefefhipdlcaa
