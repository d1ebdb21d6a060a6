import Derived.Test.YtbkjminjkjnkpaaGreatDoorQDkText
import Derived.Test.YtbkjminjkjnkpaaGreatDoorQDkBuild
import Derived.Test.YtbkjminjkjnkpaaGreatDoorQDkPlaces
import Derived.Test.YtbkjminjkjnkpaaGreatDoorQWordIs
import Derived.StillTailTactics
/- Layer 5 (decks): decks.tellable, decks.write. -/
namespace Go.Proofs.YtbkjminjkjnkpaaGreatDoor
open Go.RowKit Go.Lib

theorem word_yes (s : ByteArray) (b : Bool) (h : wordB s = b) (w : World) (hs : s.size ≤ maxLen) (hT : Tabs w) :
    Calls Tryz.prog 48 #[.string s] w fun e w' => e = .returned (.bool b) ∧ Below w.heap.size w w' := by
  rw [← h]; exact word_any s w hs hT
/-- A kind's name, in memory. -/
theorem kind_name {w : World} {p : Option Addr} {ks : List KC} (hK : KindsAt w p ks) (j : Nat) (hj : j < ks.length) : ∃ b o, p = some ⟨b, o, none⟩ ∧ w.cell? ⟨b, o + j * 6, none⟩ = some (.string (nameI (ks.map (·.name)) (j : Int))) ∧ b < w.heap.size := by
  obtain ⟨b, o, hp, hc⟩ := hK (by omega)
  have hk : ks[j]? = some ks[j] := List.getElem?_eq_getElem hj
  have h0 := hc j _ hk 0 _ rfl
  refine ⟨b, o, hp, ?_, World.block_lt_of_cell? _ _ h0⟩
  have e : nameI (ks.map (·.name)) (j : Int) = ks[j].name := by
    unfold nameI
    rw [Int.toNat_natCast, List.getD_eq_getElem?_getD, List.getElem?_map, hk]
    rfl
  rw [e]
  exact h0
theorem name_size {ks : List KC} (hn : ∀ k ∈ ks, k.name.size ≤ maxLen) (x : Int) : (nameI (ks.map (·.name)) x).size ≤ maxLen := by
  unfold nameI
  rw [List.getD_eq_getElem?_getD, List.getElem?_map]
  cases h : ks[x.toNat]? with
  | none => exact Nat.zero_le _
  | some k => exact hn k (List.mem_of_getElem? h)

set_option maxHeartbeats 4000000 in
set_option maxRecDepth 100000 in
theorem tellable_any (q p : Option Addr) (cd c : Nat) (d : List Int) (ks : List KC) (w : World) (hd : IntsAt w q d) (hdm : d.length ≤ maxLen) (hK : KindsAt w p ks) (hm : ks.length ≤ 4611686018427387904) (hn : ∀ k ∈ ks, k.name.size ≤ maxLen) (hT : Tabs w) :
    Calls Tryz.prog 22 #[.slice q d.length cd, .slice p ks.length c] w fun e w' => e = .returned (.bool (tellB (ks.map (·.name)) d)) ∧ Below w.heap.size w w' := by
  have HT := Lib.hid hT
  have HK := Lib.hid hK
  have HN := Lib.hid hn
  have HD := Lib.hid hd
  clear hT hK hn hd
  unfold maxLen at hdm
  obtain ⟨B, hB⟩ : ∃ B, tellB (ks.map (·.name)) d = B := ⟨_, rfl⟩
  rw [hB]
  have HB := Lib.hid hB
  clear hB
  by_cases hl : d.length ≤ 40
  · have q0 : ¬ ((d.length : Int) > 40) := by omega
    have HL := Lib.hid hl
    obtain ⟨n, hnn⟩ : ∃ n, d.length = n := ⟨_, rfl⟩
    rw [hnn] at hl hdm q0 ⊢
    have HNn := Lib.hid hnn
    clear hnn
    go_enter Tryz.func22, Tryz.ntmps22
    go_wp2
    go_loopw [12] (fun vi wr => ∃ k : Nat, vi = .int .i64 k ∧ k ≤ n ∧ Below w.heap.size w wr ∧ (∀ j x, j < k → d[j]? = some x → 0 ≤ x ∧ x < (ks.map (·.name)).length ∧ wordB (nameI (ks.map (·.name)) x) = true)) (fun vi _ => n - (RowKit.intOf vi).toNat)
    case atStart => exact ⟨0, by rfl, by omega, Below.refl _ _, by simp⟩
    case round =>
      obtain ⟨k, rfl, hk, hbw, hall⟩ := hrel
      have HA := Lib.hid hall
      have HBW := Lib.hid hbw
      clear hall
      by_cases hlt : k < n
      · obtain ⟨x, hxk⟩ : ∃ x, d[k]? = some x := ⟨d[k]'(by have := HNn.out; omega), List.getElem?_eq_getElem _⟩
        have hxm : x ∈ d := List.mem_of_getElem? hxk
        obtain ⟨a, rfl, ha⟩ := (HD.out.below hbw) k x hxk
        have i1 : (k : Int) < (n : Int) := by omega
        have i0 : (0 : Int) ≤ (k : Int) := by omega
        have HX := Lib.hid hxk
        have HXM := Lib.hid hxm
        clear hxk hxm hbw
        by_cases hx0 : x < 0
        · have hf := tell_no HXM.out (.inl hx0) (ns := ks.map (·.name))
          rw [HB.out] at hf
          subst hf
          go_wp2
          go_ret
          exact ⟨rfl, HBW.out⟩
        · obtain ⟨j, rfl⟩ : ∃ j : Nat, x = j := ⟨x.toNat, by omega⟩
          by_cases hxl : j < ks.length
          · obtain ⟨b, o, hp, hc, hbl⟩ := kind_name (HK.out.below HBW.out) j hxl
            subst hp
            have hns := name_size HN.out (j : Int)
            have hj1 : ¬ ((j : Int) < 0) := by omega
            have hj2 : ¬ ((j : Int) ≥ (ks.length : Int)) := by omega
            have hj3 : (0 : Int) ≤ (j : Int) := by omega
            have hj4 : (j : Int) < (ks.length : Int) := by omega
            have HJ := Lib.hid hxl
            obtain ⟨nm, hnm⟩ : ∃ nm, nameI (ks.map (·.name)) (j : Int) = nm := ⟨_, rfl⟩
            rw [hnm] at hc hns
            have HNM := Lib.hid hnm
            clear hnm hx0 hxl
            by_cases hwd : wordB nm = true
            · have HWD := Lib.hid hwd
              clear hwd
              go_wp2_with fail
              refine (word_yes nm true HWD.out _ hns (HT.out.below HBW.out)).mono ?_
              rintro e w2 ⟨rfl, b2⟩
              have HB2 := Lib.hid (HBW.out.trans (b2.mono HBW.out.size))
              clear b2
              go_wp2
              go_roundw
              case rel => exact ⟨k + 1, by go_num, by omega, HB2.out, fun i y hi hy => by
                by_cases hik : i < k
                · exact HA.out i y hik hy
                · obtain rfl : i = k := by omega
                  rw [HX.out] at hy
                  cases hy
                  exact ⟨by omega, by have := HJ.out; simp; omega, by rw [HNM.out]; exact HWD.out⟩⟩
              case measure => simp [RowKit.intOf]; omega
            · have hwf : wordB nm = false := by simpa using hwd
              have hf := tell_no HXM.out (.inr (.inr (by rw [HNM.out]; exact hwf))) (ns := ks.map (·.name))
              rw [HB.out] at hf
              subst hf
              have HWD := Lib.hid hwf
              clear hwd hwf
              go_wp2_with fail
              refine (word_yes nm false HWD.out _ hns (HT.out.below HBW.out)).mono ?_
              rintro e w2 ⟨rfl, b2⟩
              have HB2 := Lib.hid (HBW.out.trans (b2.mono HBW.out.size))
              clear b2
              go_wp2
              go_ret
              exact ⟨rfl, HB2.out⟩
          · have hf := tell_no HXM.out (.inr (.inl (by simp; omega))) (ns := ks.map (·.name))
            rw [HB.out] at hf
            subst hf
            have hj1 : ¬ ((j : Int) < 0) := by omega
            have hj2 : ((j : Int) ≥ (ks.length : Int)) := by omega
            go_wp2
            go_ret
            exact ⟨rfl, HBW.out⟩
      · have hkn : k = n := by omega
        subst hkn
        have hf := tell_of (ns := ks.map (·.name)) HL.out (fun x hx => by
          obtain ⟨i, hi, rfl⟩ := List.getElem_of_mem hx
          exact HA.out i _ (by have := HNn.out; omega) (List.getElem?_eq_getElem hi))
        rw [HB.out] at hf
        subst hf
        go_wp2
        go_ret
        exact ⟨rfl, HBW.out⟩
  · have q0 : ((d.length : Int) > 40) := by omega
    have hf : B = false := by
      rw [← HB.out]
      cases ht : tellB (ks.map (·.name)) d with
      | false => rfl
      | true => exact absurd (tell_each ht).1 hl
    subst hf
    go_enter Tryz.func22, Tryz.ntmps22
    go_wp2
    go_ret
    exact ⟨rfl, Below.refl _ _⟩
end Go.Proofs.YtbkjminjkjnkpaaGreatDoor
