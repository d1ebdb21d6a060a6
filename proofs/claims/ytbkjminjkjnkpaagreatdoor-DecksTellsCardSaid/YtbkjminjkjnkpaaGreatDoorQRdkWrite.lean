import Derived.Test.YtbkjminjkjnkpaaGreatDoorQRdkRead
import Derived.Test.YtbkjminjkjnkpaaGreatDoorQRdkText
import Derived.Test.YtbkjminjkjnkpaaGreatDoorQRefWordIs
import Derived.Laws.IdiomStrings
/- The reference of layer 5 (joustref05): Write. -/
namespace Go.Proofs.YtbkjminjkjnkpaaGreatDoor
open Go.RowKit Go.Lib

theorem conv_nl (W : World) : (convert 71 9 (.slice (some ⟨W.heap.size, 0, none⟩) 1 1)).run Tryz.prog (W.alloc (.cells #[.int .u8 10] 5)) = .ok (.string ⟨#[10]⟩) (W.alloc (.cells #[.int .u8 10] 5)) :=
  run_convert_bytes_back (W.alloc (.cells #[.int .u8 10] 5)) 71 9 5 ⟨W.heap.size, 0, none⟩ 1 [10] Tryz.underlying71 Tryz.underlying5 Tryz.underlying9 (fun j hj => by
    have hj0 : j = 0 := by simpa using hj
    subst hj0
    show (W.alloc _).cell? ⟨W.heap.size, 0, none⟩ = _
    rw [cell_blk (heap_alloc_new W (.cells #[.int .u8 10] 5))]
    rfl)
theorem digit_text {n : Nat} (h1 : 1 ≤ n) (h3 : n ≤ 3) : (⟨#[48, 49, 50, 51]⟩ : ByteArray).extract n (n + 1) = decB n := by
  match n, h1, h3 with
  | 1, _, _ => decide +kernel
  | 2, _, _ => decide +kernel
  | 3, _, _ => decide +kernel

set_option maxHeartbeats 8000000 in
set_option maxRecDepth 100000 in
theorem rwrite_any (qa qb p : Option Addr) (ca cb c : Nat) (da db : List Int) (ks : List KC) (w : World) (hda : IntsAt w qa da) (hdb : IntsAt w qb db) (hla : da.length ≤ maxLen) (hlb : db.length ≤ maxLen)
    (hK : KindsAt w p ks) (hm : ks.length ≤ 4611686018427387904) (hn : ∀ k ∈ ks, k.name.size ≤ maxLen) (hT : Tabs w) :
    Calls Tryz.prog 10 #[.agg #[.slice qa da.length ca, .slice qb db.length cb], .slice p ks.length c] w fun e w' => e = .returned (.tuple #[.string (writeAns (ks.map (·.name)) da db).1, .int .i64 (writeAns (ks.map (·.name)) da db).2]) ∧ Below w.heap.size w w' := by
  unfold maxLen at hla hlb
  obtain ⟨w0, hw0⟩ : ∃ w0, w0 = w.alloc (.cells #[.slice qa da.length ca, .slice qb db.length cb] 23) := ⟨_, rfl⟩
  have hb0 : Below w.heap.size w w0 := by rw [hw0]; exact (Below.refl _ _).alloc (Nat.le_refl _) _
  have hx0 : w0.heap[w.heap.size]? = some (.cells #[.slice qa da.length ca, .slice qb db.length cb] 23 (0, 0)) := by rw [hw0]; exact heap_alloc_new _ _
  have HDA := Lib.hid (hda.below hb0)
  have HDB := Lib.hid (hdb.below hb0)
  have HK := Lib.hid (hK.below hb0)
  have HT := Lib.hid (hT.below hb0)
  have HN := Lib.hid hn
  have HW0 := Lib.hid hw0
  have HX0 := Lib.hid hx0
  have HB0 := Lib.hid hb0
  obtain ⟨ns, hns⟩ : ∃ ns, ns = ks.map (·.name) := ⟨_, rfl⟩
  rw [← hns]
  have HNS := Lib.hid hns
  obtain ⟨AN, hAN⟩ : ∃ AN, writeAns ns da db = AN := ⟨_, rfl⟩
  rw [hAN]
  have HAN := Lib.hid hAN
  have hlt0 := heap_lt hx0
  have x0 := cell_blk (i := 0) hx0; have x1 := cell_blk (i := 1) hx0; have xf0 := free_blk (i := 0) hx0; have xf1 := free_blk (i := 1) hx0; simp at x0 x1
  clear hda hdb hK hT hn hw0 hx0 hb0 hns hAN
  generalize hNA : da.length = NA at *
  generalize hNB : db.length = NB at *
  generalize hKM : ks.length = KM at *
  have HNA := Lib.hid hNA
  have HNB := Lib.hid hNB
  have HKM := Lib.hid hKM
  clear hNA hNB hKM
  by_cases h40 : NA ≤ 40
  · have hi40 : (NA : Int) ≤ 40 := by omega
    go_enter Tryz.func10, Tryz.ntmps10
    go_wp2_with fail
    rw [← HW0.out]
    refine wp_loop_rounds 3 ?_
    rw [rounds_succ]
    go_wp2_with fail
    go_loopw [6, 8] (fun v6 v8 wr => ∃ (k : Nat) (tx : ByteArray) (bb : List UInt8), v8 = .int .i64 k ∧ k ≤ NA ∧ v6 = .string tx ∧ tx.data.toList = [100, 101, 99, 107, 32, 123, 32] ++ bb ∧ bb ++ joinB (bodyK ns (da.drop k)) = joinB (bodyK ns da) ∧ bb.length ≤ 100 * k ∧ (∀ j x, j < k → da[j]? = some x → 0 ≤ x ∧ x < (ns.length : Int) ∧ wordB (nameI ns x) = true) ∧ Below w0.heap.size w0 wr) (fun _ v8 _ => NA - (RowKit.intOf v8).toNat)
    case atStart => exact ⟨0, _, [], by rfl, by omega, rfl, by rfl, by rfl, by simp, by simp, Below.refl _ _⟩
    case round =>
    obtain ⟨k, tx, bb, rfl, hk, rfl, htx, hbj, hbl, hall, hbw⟩ := hrel
    rename World => wA
    have HTX := Lib.hid htx
    have HBJ := Lib.hid hbj
    have HALL := Lib.hid hall
    have HBW := Lib.hid hbw
    have hxA := (hbw.block _ (heap_lt HX0.out)).trans HX0.out
    have hltA := heap_lt hxA
    clear htx hbj hall hbw x0 x1 xf0 xf1
    have x0 := cell_blk (i := 0) hxA; have x1 := cell_blk (i := 1) hxA; have xf0 := free_blk (i := 0) hxA; have xf1 := free_blk (i := 1) hxA; simp at x0 x1
    clear hxA
    by_cases hkn : k < NA
    · obtain ⟨x, hx⟩ : ∃ x, da[k]? = some x := ⟨da[k]'(by have := HNA.out; omega), List.getElem?_eq_getElem _⟩
      obtain ⟨ad, rfl, had⟩ := (HDA.out.below HBW.out) k x hx
      have HX := Lib.hid hx
      have k1 : (k : Int) < (NA : Int) := by omega
      have k0 : (0 : Int) ≤ (k : Int) := by omega
      clear hx
      go_wp2_with fail
      go_loopw [9] (fun v9 wr => ∃ n : Nat, v9 = .int .i64 n ∧ 1 ≤ n ∧ k + n ≤ NA ∧ (∀ j, j < n → da[k + j]? = some x) ∧ Below w0.heap.size w0 wr) (fun v9 _ => NA - k - (RowKit.intOf v9).toNat)
      case atStart => exact ⟨1, by rfl, by omega, by omega, (fun j hj => by rw [show j = 0 by omega]; exact HX.out), HBW.out⟩
      case round =>
      obtain ⟨n, rfl, hn1, hkn2, hsame, hbq⟩ := hrel
      rename World => wB
      have HSAME := Lib.hid hsame
      have HBQ := Lib.hid hbq
      have hxB := (hbq.block _ (heap_lt HX0.out)).trans HX0.out
      have hltB := heap_lt hxB
      obtain ⟨ad', e', had'⟩ := (HDA.out.below hbq) k x HX.out
      cases e'
      clear hsame hbq x0 x1 xf0 xf1
      have x0 := cell_blk (i := 0) hxB; have x1 := cell_blk (i := 1) hxB; have xf0 := free_blk (i := 0) hxB; have xf1 := free_blk (i := 1) hxB; simp at x0 x1
      clear hxB
      by_cases hmore : k + n < NA
      · obtain ⟨y, hy⟩ : ∃ y, da[k + n]? = some y := ⟨da[k + n]'(by have := HNA.out; omega), List.getElem?_eq_getElem _⟩
        obtain ⟨ad', e', hady⟩ := (HDA.out.below HBQ.out) (k + n) y hy
        cases e'
        have HY := Lib.hid hy
        have k3 : (k : Int) + (n : Int) < (NA : Int) := by omega
        have k2 : (0 : Int) ≤ (k : Int) + (n : Int) := by omega
        clear hy
        by_cases hxy : y = x
        · subst hxy
          have q1 : (y == y) = true := by simp
          go_wp2_with fail
          go_quiet (fail)
          go_wp2
          refine ⟨⟨n + 1, by go_num, by omega, by omega, fun j hj => ?_, below_dr HBQ.out _⟩, ?_⟩
          · by_cases hjn : j < n
            · exact HSAME.out j hjn
            · obtain rfl : j = n := by omega
              exact HY.out
          · simp [RowKit.intOf]; omega
        · have q1 : (y == x) = false := by simpa using hxy
          have hal : alikeN (da.drop k) = n := alike_is (by rw [List.length_drop, HNA.out]; omega) (fun j hj => by rw [List.getElem?_drop, List.getElem?_drop, HSAME.out j hj, HSAME.out 0 (by omega)]) (fun z hz => by
            rw [List.getElem?_drop, HSAME.out 0 (by omega)]
            rw [List.getElem?_drop] at hz
            rw [HY.out] at hz; cases hz; exact fun e => hxy (Option.some.inj e).symm)
          by_cases h3 : n ≤ 3
          · have n3 : (n : Int) ≤ 3 := by omega
            by_cases hx0 : x < 0
            · have hAN2 : AN = (⟨#[]⟩, 2) := by rw [← HAN.out]; exact ans_tell_a (tell_no (List.mem_of_getElem? HX.out) (.inl hx0))
              have HAN2 := Lib.hid hAN2
              clear hAN2
              go_wp2_with fail
              go_quiet (fail)
              go_wp2_with fail
              go_ret2
              exact ⟨by rw [HAN2.out]; rfl, HB0.out.trans (Below.mono (by first | exact HBQ.out | exact below_dr HBQ.out _ | exact HBV.out) HB0.out.size)⟩
            · obtain ⟨j, rfl⟩ : ∃ j : Nat, x = j := ⟨x.toNat, by omega⟩
              have hj0 : (0 : Int) ≤ (j : Int) := by omega
              by_cases hjl : j < KM
              · obtain ⟨kb, ko, rfl, hcn, hbl⟩ := kind_name (HK.out.below HBQ.out) j (by rw [HKM.out]; exact hjl)
                have hns := name_size HN.out (j : Int)
                rw [← HNS.out] at hcn hns
                have hj4 : (j : Int) < (KM : Int) := by omega
                obtain ⟨nm, hnm⟩ : ∃ nm, nameI ns (j : Int) = nm := ⟨_, rfl⟩
                rw [hnm] at hcn hns
                have HNM := Lib.hid hnm
                have hrw : Hid (∀ W, Below w0.heap.size w0 W → Calls Tryz.prog 26 #[.string nm] W fun e w' => e = .returned (.bool (wordB nm)) ∧ Below W.heap.size W w') := Lib.hid fun W hW => rWord_any nm W hns (HT.out.below hW)
                clear hnm
                by_cases hwd : wordB nm = true
                · rw [hwd] at hrw
                  have HWD := Lib.hid hwd
                  clear hwd
                  go_wp2_with fail
                  go_quiet (fail)
                  go_wp2_with fail
                  refine (hrw.out _ (by first | exact HBQ.out | exact below_dr HBQ.out _)).mono ?_
                  rintro e wV ⟨rfl, bV⟩
                  have HBV : Hid (Below w0.heap.size w0 wV) := Lib.hid (by first | exact HBQ.out.trans (bV.mono HBQ.out.size) | exact (below_dr HBQ.out _).trans (bV.mono (below_dr HBQ.out _).size))
                  have hxV := (HBV.out.block _ (heap_lt HX0.out)).trans HX0.out
                  have hltV := heap_lt hxV
                  obtain ⟨ad', e', hadV⟩ := (HDA.out.below HBV.out) k _ HX.out
                  cases e'
                  obtain ⟨kb', ko', e', hcnV, hblV⟩ := kind_name (HK.out.below HBV.out) j (by rw [HKM.out]; exact hjl)
                  cases e'
                  rw [← HNS.out, HNM.out] at hcnV
                  have hnz := (word_size HWD.out).2
                  have htz : tx.size ≤ 10000 := by
                    have h1 := congrArg List.length HTX.out
                    rw [List.length_append] at h1
                    have h2 : tx.data.toList.length = tx.size := Array.length_toList
                    simp only [List.length_cons, List.length_nil] at h1
                    omega
                  have e4 : (n : Int) + 1 ≤ 4 := by omega
                  have e5 : (0 : Int) ≤ (n : Int) := by omega
                  clear bV x0 x1 xf0 xf1
                  have x0 := cell_blk (i := 0) hxV; have x1 := cell_blk (i := 1) hxV; have xf0 := free_blk (i := 0) hxV; have xf1 := free_blk (i := 1) hxV; simp at x0 x1
                  clear hxV
                  have hcons : da.drop k = (j : Int) :: da.drop (k + 1) := by
                    have hl : k < da.length := by rw [HNA.out]; exact hkn
                    rw [List.drop_eq_getElem_cons hl]
                    congr 1
                    have := HX.out
                    rw [List.getElem?_eq_getElem hl] at this
                    exact Option.some.inj this
                  have hal2 : alikeN ((j : Int) :: da.drop (k + 1)) = n := by rw [← hcons]; exact hal
                  have hfin : bb ++ joinB [((2, decB n), 0), ((1, nm), 0)] ++ joinB (bodyK ns (da.drop (k + n))) = joinB (bodyK ns da) := by
                    rw [← HBJ.out, hcons, bodyK_cons, hal2, HNM.out]
                    rw [show (((2, decB n), 0) :: ((1, nm), 0) :: bodyK ns (((j : Int) :: da.drop (k + 1)).drop n) : List (KT × Nat)) = [((2, decB n), 0), ((1, nm), 0)] ++ bodyK ns (((j : Int) :: da.drop (k + 1)).drop n) from rfl, joinB_app, List.append_assoc, ← hcons, List.drop_drop]
                  have htx2 : (tx ++ ((⟨#[48, 49, 50, 51]⟩ : ByteArray).extract n (n + 1) ++ (⟨#[32]⟩ : ByteArray) ++ nm ++ (⟨#[32]⟩ : ByteArray))).data.toList = [100, 101, 99, 107, 32, 123, 32] ++ (bb ++ joinB [((2, decB n), 0), ((1, nm), 0)]) := by
                    rw [bytes_app, HTX.out, digit_text hn1 h3, bytes_two, List.append_assoc]
                  have hlen2 : (bb ++ joinB [((2, decB n), 0), ((1, nm), 0)]).length ≤ 100 * (k + n) := by
                    have := joinB_two_len (n := n) (by omega) (by omega) HWD.out
                    rw [List.length_append]
                    omega
                  have hall2 : ∀ i y, i < k + n → da[i]? = some y → 0 ≤ y ∧ y < (ns.length : Int) ∧ wordB (nameI ns y) = true := fun i y hi hy => by
                    by_cases hik : i < k
                    · exact HALL.out i y hik hy
                    · have h1 := HSAME.out (i - k) (by omega)
                      rw [show k + (i - k) = i by omega, hy] at h1
                      cases h1
                      exact ⟨hj0, by rw [HNS.out, List.length_map, HKM.out]; exact hj4, by rw [HNM.out]; exact HWD.out⟩
                  have HFIN := Lib.hid hfin
                  have HTX2 := Lib.hid htx2
                  have HLEN2 := Lib.hid hlen2
                  have HALL2 := Lib.hid hall2
                  clear hcons hal2 hfin htx2 hlen2 hall2 hal
                  go_wp2_with fail
                  go_quiet (fail)
                  go_wp2
                  first
                    | (refine ⟨⟨k + n, _, bb ++ joinB [((2, decB n), 0), ((1, nm), 0)], by go_num, by omega, rfl, HTX2.out, HFIN.out, HLEN2.out, HALL2.out, by first | exact HBV.out | exact below_dr HBV.out _⟩, ?_⟩
                       simp [RowKit.intOf]; omega)
                    | (go_roundw
                       case rel => exact ⟨k + n, _, bb ++ joinB [((2, decB n), 0), ((1, nm), 0)], by go_num, by omega, rfl, HTX2.out, HFIN.out, HLEN2.out, HALL2.out, by first | exact HBV.out | exact below_dr HBV.out _⟩
                       case measure => simp [RowKit.intOf]; omega)
                · have hwf : wordB nm = false := by simpa using hwd
                  have hAN2 : AN = (⟨#[]⟩, 2) := by rw [← HAN.out]; exact ans_tell_a (tell_no (List.mem_of_getElem? HX.out) (.inr (.inr (by rw [HNM.out]; exact hwf))))
                  have HAN2 := Lib.hid hAN2
                  rw [hwf] at hrw
                  clear hAN2 hwd hwf
                  go_wp2_with fail
                  go_quiet (fail)
                  go_wp2_with fail
                  refine (hrw.out _ (by first | exact HBQ.out | exact below_dr HBQ.out _)).mono ?_
                  rintro e wV ⟨rfl, bV⟩
                  have HBV : Hid (Below w0.heap.size w0 wV) := Lib.hid (by first | exact HBQ.out.trans (bV.mono HBQ.out.size) | exact (below_dr HBQ.out _).trans (bV.mono (below_dr HBQ.out _).size))
                  clear bV
                  go_wp2_with fail
                  go_ret2
                  exact ⟨by rw [HAN2.out]; rfl, HB0.out.trans (Below.mono (by first | exact HBQ.out | exact below_dr HBQ.out _ | exact HBV.out) HB0.out.size)⟩
              · have hj5 : ¬ ((j : Int) < (KM : Int)) := by omega
                have hj6 : (KM : Int) ≤ (j : Int) := by omega
                have hAN2 : AN = (⟨#[]⟩, 2) := by rw [← HAN.out]; exact ans_tell_a (tell_no (List.mem_of_getElem? HX.out) (.inr (.inl (by rw [HNS.out, List.length_map, HKM.out]; exact hj6))))
                have HAN2 := Lib.hid hAN2
                clear hAN2
                go_wp2_with fail
                go_quiet (fail)
                go_wp2_with fail
                go_ret2
                exact ⟨by rw [HAN2.out]; rfl, HB0.out.trans (Below.mono (by first | exact HBQ.out | exact below_dr HBQ.out _ | exact HBV.out) HB0.out.size)⟩
          · have n3 : ¬ ((n : Int) ≤ 3) := by omega
            have hAN2 : AN = (⟨#[]⟩, 2) := by rw [← HAN.out]; exact run_no_a (k := k) (by rw [hal]; omega)
            have HAN2 := Lib.hid hAN2
            clear hAN2
            go_wp2_with fail
            go_quiet (fail)
            go_wp2_with fail
            go_ret2
            exact ⟨by rw [HAN2.out]; rfl, HB0.out.trans (Below.mono (by first | exact HBQ.out | exact below_dr HBQ.out _ | exact HBV.out) HB0.out.size)⟩
      · have k3 : ¬ ((k : Int) + (n : Int) < (NA : Int)) := by omega
        have hal : alikeN (da.drop k) = n := alike_is (by rw [List.length_drop, HNA.out]; omega) (fun j hj => by rw [List.getElem?_drop, List.getElem?_drop, HSAME.out j hj, HSAME.out 0 (by omega)]) (fun z hz => by
          rw [List.getElem?_drop, HSAME.out 0 (by omega)]
          rw [List.getElem?_drop] at hz
          rw [List.getElem?_eq_none (by rw [HNA.out]; omega)] at hz; cases hz)
        by_cases h3 : n ≤ 3
        · have n3 : (n : Int) ≤ 3 := by omega
          by_cases hx0 : x < 0
          · have hAN2 : AN = (⟨#[]⟩, 2) := by rw [← HAN.out]; exact ans_tell_a (tell_no (List.mem_of_getElem? HX.out) (.inl hx0))
            have HAN2 := Lib.hid hAN2
            clear hAN2
            go_wp2_with fail
            have k3w : IntKind.i64.wrap ((k : Int) + (n : Int)) = (k : Int) + (n : Int) := IntWalk.i64_in _ (by omega)
            have k3q : decide ((k : Int) + (n : Int) < (NA : Int)) = false := decide_eq_false (by omega)
            go_quiet (fail)
            go_wp2_with fail
            go_ret2
            exact ⟨by rw [HAN2.out]; rfl, HB0.out.trans (Below.mono (by first | exact HBQ.out | exact below_dr HBQ.out _ | exact HBV.out) HB0.out.size)⟩
          · obtain ⟨j, rfl⟩ : ∃ j : Nat, x = j := ⟨x.toNat, by omega⟩
            have hj0 : (0 : Int) ≤ (j : Int) := by omega
            by_cases hjl : j < KM
            · obtain ⟨kb, ko, rfl, hcn, hbl⟩ := kind_name (HK.out.below HBQ.out) j (by rw [HKM.out]; exact hjl)
              have hns := name_size HN.out (j : Int)
              rw [← HNS.out] at hcn hns
              have hj4 : (j : Int) < (KM : Int) := by omega
              obtain ⟨nm, hnm⟩ : ∃ nm, nameI ns (j : Int) = nm := ⟨_, rfl⟩
              rw [hnm] at hcn hns
              have HNM := Lib.hid hnm
              have hrw : Hid (∀ W, Below w0.heap.size w0 W → Calls Tryz.prog 26 #[.string nm] W fun e w' => e = .returned (.bool (wordB nm)) ∧ Below W.heap.size W w') := Lib.hid fun W hW => rWord_any nm W hns (HT.out.below hW)
              clear hnm
              by_cases hwd : wordB nm = true
              · rw [hwd] at hrw
                have HWD := Lib.hid hwd
                clear hwd
                go_wp2_with fail
                have k3w : IntKind.i64.wrap ((k : Int) + (n : Int)) = (k : Int) + (n : Int) := IntWalk.i64_in _ (by omega)
                have k3q : decide ((k : Int) + (n : Int) < (NA : Int)) = false := decide_eq_false (by omega)
                go_quiet (fail)
                go_wp2_with fail
                refine (hrw.out _ (by first | exact HBQ.out | exact below_dr HBQ.out _)).mono ?_
                rintro e wV ⟨rfl, bV⟩
                have HBV : Hid (Below w0.heap.size w0 wV) := Lib.hid (by first | exact HBQ.out.trans (bV.mono HBQ.out.size) | exact (below_dr HBQ.out _).trans (bV.mono (below_dr HBQ.out _).size))
                have hxV := (HBV.out.block _ (heap_lt HX0.out)).trans HX0.out
                have hltV := heap_lt hxV
                obtain ⟨ad', e', hadV⟩ := (HDA.out.below HBV.out) k _ HX.out
                cases e'
                obtain ⟨kb', ko', e', hcnV, hblV⟩ := kind_name (HK.out.below HBV.out) j (by rw [HKM.out]; exact hjl)
                cases e'
                rw [← HNS.out, HNM.out] at hcnV
                have hnz := (word_size HWD.out).2
                have htz : tx.size ≤ 10000 := by
                  have h1 := congrArg List.length HTX.out
                  rw [List.length_append] at h1
                  have h2 : tx.data.toList.length = tx.size := Array.length_toList
                  simp only [List.length_cons, List.length_nil] at h1
                  omega
                have e4 : (n : Int) + 1 ≤ 4 := by omega
                have e5 : (0 : Int) ≤ (n : Int) := by omega
                clear bV x0 x1 xf0 xf1
                have x0 := cell_blk (i := 0) hxV; have x1 := cell_blk (i := 1) hxV; have xf0 := free_blk (i := 0) hxV; have xf1 := free_blk (i := 1) hxV; simp at x0 x1
                clear hxV
                have hcons : da.drop k = (j : Int) :: da.drop (k + 1) := by
                  have hl : k < da.length := by rw [HNA.out]; exact hkn
                  rw [List.drop_eq_getElem_cons hl]
                  congr 1
                  have := HX.out
                  rw [List.getElem?_eq_getElem hl] at this
                  exact Option.some.inj this
                have hal2 : alikeN ((j : Int) :: da.drop (k + 1)) = n := by rw [← hcons]; exact hal
                have hfin : bb ++ joinB [((2, decB n), 0), ((1, nm), 0)] ++ joinB (bodyK ns (da.drop (k + n))) = joinB (bodyK ns da) := by
                  rw [← HBJ.out, hcons, bodyK_cons, hal2, HNM.out]
                  rw [show (((2, decB n), 0) :: ((1, nm), 0) :: bodyK ns (((j : Int) :: da.drop (k + 1)).drop n) : List (KT × Nat)) = [((2, decB n), 0), ((1, nm), 0)] ++ bodyK ns (((j : Int) :: da.drop (k + 1)).drop n) from rfl, joinB_app, List.append_assoc, ← hcons, List.drop_drop]
                have htx2 : (tx ++ ((⟨#[48, 49, 50, 51]⟩ : ByteArray).extract n (n + 1) ++ (⟨#[32]⟩ : ByteArray) ++ nm ++ (⟨#[32]⟩ : ByteArray))).data.toList = [100, 101, 99, 107, 32, 123, 32] ++ (bb ++ joinB [((2, decB n), 0), ((1, nm), 0)]) := by
                  rw [bytes_app, HTX.out, digit_text hn1 h3, bytes_two, List.append_assoc]
                have hlen2 : (bb ++ joinB [((2, decB n), 0), ((1, nm), 0)]).length ≤ 100 * (k + n) := by
                  have := joinB_two_len (n := n) (by omega) (by omega) HWD.out
                  rw [List.length_append]
                  omega
                have hall2 : ∀ i y, i < k + n → da[i]? = some y → 0 ≤ y ∧ y < (ns.length : Int) ∧ wordB (nameI ns y) = true := fun i y hi hy => by
                  by_cases hik : i < k
                  · exact HALL.out i y hik hy
                  · have h1 := HSAME.out (i - k) (by omega)
                    rw [show k + (i - k) = i by omega, hy] at h1
                    cases h1
                    exact ⟨hj0, by rw [HNS.out, List.length_map, HKM.out]; exact hj4, by rw [HNM.out]; exact HWD.out⟩
                have HFIN := Lib.hid hfin
                have HTX2 := Lib.hid htx2
                have HLEN2 := Lib.hid hlen2
                have HALL2 := Lib.hid hall2
                clear hcons hal2 hfin htx2 hlen2 hall2 hal
                go_wp2_with fail
                go_quiet (fail)
                go_wp2
                first
                  | (refine ⟨⟨k + n, _, bb ++ joinB [((2, decB n), 0), ((1, nm), 0)], by go_num, by omega, rfl, HTX2.out, HFIN.out, HLEN2.out, HALL2.out, by first | exact HBV.out | exact below_dr HBV.out _⟩, ?_⟩
                     simp [RowKit.intOf]; omega)
                  | (go_roundw
                     case rel => exact ⟨k + n, _, bb ++ joinB [((2, decB n), 0), ((1, nm), 0)], by go_num, by omega, rfl, HTX2.out, HFIN.out, HLEN2.out, HALL2.out, by first | exact HBV.out | exact below_dr HBV.out _⟩
                     case measure => simp [RowKit.intOf]; omega)
              · have hwf : wordB nm = false := by simpa using hwd
                have hAN2 : AN = (⟨#[]⟩, 2) := by rw [← HAN.out]; exact ans_tell_a (tell_no (List.mem_of_getElem? HX.out) (.inr (.inr (by rw [HNM.out]; exact hwf))))
                have HAN2 := Lib.hid hAN2
                rw [hwf] at hrw
                clear hAN2 hwd hwf
                go_wp2_with fail
                have k3w : IntKind.i64.wrap ((k : Int) + (n : Int)) = (k : Int) + (n : Int) := IntWalk.i64_in _ (by omega)
                have k3q : decide ((k : Int) + (n : Int) < (NA : Int)) = false := decide_eq_false (by omega)
                go_quiet (fail)
                go_wp2_with fail
                refine (hrw.out _ (by first | exact HBQ.out | exact below_dr HBQ.out _)).mono ?_
                rintro e wV ⟨rfl, bV⟩
                have HBV : Hid (Below w0.heap.size w0 wV) := Lib.hid (by first | exact HBQ.out.trans (bV.mono HBQ.out.size) | exact (below_dr HBQ.out _).trans (bV.mono (below_dr HBQ.out _).size))
                clear bV
                go_wp2_with fail
                go_ret2
                exact ⟨by rw [HAN2.out]; rfl, HB0.out.trans (Below.mono (by first | exact HBQ.out | exact below_dr HBQ.out _ | exact HBV.out) HB0.out.size)⟩
            · have hj5 : ¬ ((j : Int) < (KM : Int)) := by omega
              have hj6 : (KM : Int) ≤ (j : Int) := by omega
              have hAN2 : AN = (⟨#[]⟩, 2) := by rw [← HAN.out]; exact ans_tell_a (tell_no (List.mem_of_getElem? HX.out) (.inr (.inl (by rw [HNS.out, List.length_map, HKM.out]; exact hj6))))
              have HAN2 := Lib.hid hAN2
              clear hAN2
              go_wp2_with fail
              have k3w : IntKind.i64.wrap ((k : Int) + (n : Int)) = (k : Int) + (n : Int) := IntWalk.i64_in _ (by omega)
              have k3q : decide ((k : Int) + (n : Int) < (NA : Int)) = false := decide_eq_false (by omega)
              go_quiet (fail)
              go_wp2_with fail
              go_ret2
              exact ⟨by rw [HAN2.out]; rfl, HB0.out.trans (Below.mono (by first | exact HBQ.out | exact below_dr HBQ.out _ | exact HBV.out) HB0.out.size)⟩
        · have n3 : ¬ ((n : Int) ≤ 3) := by omega
          have hAN2 : AN = (⟨#[]⟩, 2) := by rw [← HAN.out]; exact run_no_a (k := k) (by rw [hal]; omega)
          have HAN2 := Lib.hid hAN2
          clear hAN2
          go_wp2_with fail
          have k3w : IntKind.i64.wrap ((k : Int) + (n : Int)) = (k : Int) + (n : Int) := IntWalk.i64_in _ (by omega)
          have k3q : decide ((k : Int) + (n : Int) < (NA : Int)) = false := decide_eq_false (by omega)
          go_quiet (fail)
          go_wp2_with fail
          go_ret2
          exact ⟨by rw [HAN2.out]; rfl, HB0.out.trans (Below.mono (by first | exact HBQ.out | exact below_dr HBQ.out _ | exact HBV.out) HB0.out.size)⟩
    · have hkA : k = NA := by omega
      have k1 : ¬ ((k : Int) < (NA : Int)) := by omega
      have hta : tellB ns da = true := tell_of (by rw [HNA.out]; exact h40) (fun y hy => by
        obtain ⟨i, hi⟩ := List.getElem?_of_mem hy
        exact HALL.out i y (by have := (List.getElem?_eq_some_iff.1 hi).1; rw [HNA.out] at this; omega) hi)
      have hbe := HBJ.out
      rw [List.drop_of_length_le (by rw [HNA.out]; omega), bodyK_nil, joinB_nil, List.append_nil] at hbe
      have htb : joinB (deckK ns da) = [100, 101, 99, 107, 32, 123, 32] ++ bb ++ [125, 10] := by
        unfold deckK
        rw [joinB_app, joinB_app, joinB_head, joinB_tail, hbe]
      obtain ⟨TB, hTB⟩ : ∃ TB, joinB (deckK ns da) = TB := ⟨_, rfl⟩
      have hTBl : TB.length ≤ 4100 := by rw [← hTB]; exact deck_len hta
      rw [hTB] at htb
      have HTB := Lib.hid htb
      have HTBE := Lib.hid hTB
      have HTBL := Lib.hid hTBl
      have HTA := Lib.hid hta
      have htz : tx.size ≤ 10000 := by
        have h1 := congrArg List.length HTX.out
        rw [List.length_append] at h1
        have h2 : tx.data.toList.length = tx.size := Array.length_toList
        simp only [List.length_cons, List.length_nil] at h1
        omega
      clear hta hbe htb hTB hTBl
      have hcv := conv_nl wA
      go_wp2_with fail
      rw [rounds_succ]
      obtain ⟨w1, hw1⟩ : ∃ w1, w1 = wA.alloc (.cells #[.int .u8 10] 5) := ⟨_, rfl⟩
      rw [← hw1]
      have hb1 : Below w0.heap.size w0 w1 := by rw [hw1]; exact HBW.out.alloc HBW.out.size _
      obtain ⟨ty, hty⟩ : ∃ ty, tx ++ (⟨#[125]⟩ ++ (⟨#[10]⟩ : ByteArray)) = ty := ⟨_, rfl⟩
      rw [hty]
      have hty2 : ty.data.toList = TB := by rw [← hty, bytes_app, HTX.out, HTB.out]; rfl
      have HTY := Lib.hid hty2
      have HB1 := Lib.hid hb1
      have hx1 := (hb1.block _ (heap_lt HX0.out)).trans HX0.out
      have hlt1 := heap_lt hx1
      have hyz : ty.size ≤ 4100 := by
        have h2 : ty.data.toList.length = ty.size := Array.length_toList
        rw [hty2] at h2
        have := HTBL.out
        omega
      clear hty hty2 hw1 hb1 x0 x1 xf0 xf1 hcv htz HTX HBJ HALL HBW k1 hltA HTB
      have x0 := cell_blk (i := 0) hx1; have x1 := cell_blk (i := 1) hx1; have xf0 := free_blk (i := 0) hx1; have xf1 := free_blk (i := 1) hx1; simp at x0 x1
      clear hx1
      by_cases h41 : NB ≤ 40
      · have hi41 : (NB : Int) ≤ 40 := by omega
        go_wp2_with fail
        go_loopw [6, 8] (fun v6 v8 wr => ∃ (k : Nat) (tx : ByteArray) (bb : List UInt8), v8 = .int .i64 k ∧ k ≤ NB ∧ v6 = .string tx ∧ tx.data.toList = (TB ++ [100, 101, 99, 107, 32, 123, 32]) ++ bb ∧ bb ++ joinB (bodyK ns (db.drop k)) = joinB (bodyK ns db) ∧ bb.length ≤ 100 * k ∧ (∀ j x, j < k → db[j]? = some x → 0 ≤ x ∧ x < (ns.length : Int) ∧ wordB (nameI ns x) = true) ∧ Below w0.heap.size w0 wr) (fun _ v8 _ => NB - (RowKit.intOf v8).toNat)
        case atStart => exact ⟨0, _, [], by rfl, by omega, rfl, by rw [bytes_app, HTY.out, List.append_nil], by rfl, by simp, by simp, HB1.out⟩
        case round =>
        obtain ⟨k, tx, bb, rfl, hk, rfl, htx, hbj, hbl, hall, hbw⟩ := hrel
        rename World => wA
        have HTX := Lib.hid htx
        have HBJ := Lib.hid hbj
        have HALL := Lib.hid hall
        have HBW := Lib.hid hbw
        have hxA := (hbw.block _ (heap_lt HX0.out)).trans HX0.out
        have hltA := heap_lt hxA
        clear htx hbj hall hbw x0 x1 xf0 xf1
        have x0 := cell_blk (i := 0) hxA; have x1 := cell_blk (i := 1) hxA; have xf0 := free_blk (i := 0) hxA; have xf1 := free_blk (i := 1) hxA; simp at x0 x1
        clear hxA
        by_cases hkn : k < NB
        · obtain ⟨x, hx⟩ : ∃ x, db[k]? = some x := ⟨db[k]'(by have := HNB.out; omega), List.getElem?_eq_getElem _⟩
          obtain ⟨ad, rfl, had⟩ := (HDB.out.below HBW.out) k x hx
          have HX := Lib.hid hx
          have k1 : (k : Int) < (NB : Int) := by omega
          have k0 : (0 : Int) ≤ (k : Int) := by omega
          clear hx
          go_wp2_with fail
          go_loopw [9] (fun v9 wr => ∃ n : Nat, v9 = .int .i64 n ∧ 1 ≤ n ∧ k + n ≤ NB ∧ (∀ j, j < n → db[k + j]? = some x) ∧ Below w0.heap.size w0 wr) (fun v9 _ => NB - k - (RowKit.intOf v9).toNat)
          case atStart => exact ⟨1, by rfl, by omega, by omega, (fun j hj => by rw [show j = 0 by omega]; exact HX.out), HBW.out⟩
          case round =>
          obtain ⟨n, rfl, hn1, hkn2, hsame, hbq⟩ := hrel
          rename World => wB
          have HSAME := Lib.hid hsame
          have HBQ := Lib.hid hbq
          have hxB := (hbq.block _ (heap_lt HX0.out)).trans HX0.out
          have hltB := heap_lt hxB
          obtain ⟨ad', e', had'⟩ := (HDB.out.below hbq) k x HX.out
          cases e'
          clear hsame hbq x0 x1 xf0 xf1
          have x0 := cell_blk (i := 0) hxB; have x1 := cell_blk (i := 1) hxB; have xf0 := free_blk (i := 0) hxB; have xf1 := free_blk (i := 1) hxB; simp at x0 x1
          clear hxB
          by_cases hmore : k + n < NB
          · obtain ⟨y, hy⟩ : ∃ y, db[k + n]? = some y := ⟨db[k + n]'(by have := HNB.out; omega), List.getElem?_eq_getElem _⟩
            obtain ⟨ad', e', hady⟩ := (HDB.out.below HBQ.out) (k + n) y hy
            cases e'
            have HY := Lib.hid hy
            have k3 : (k : Int) + (n : Int) < (NB : Int) := by omega
            have k2 : (0 : Int) ≤ (k : Int) + (n : Int) := by omega
            clear hy
            by_cases hxy : y = x
            · subst hxy
              have q1 : (y == y) = true := by simp
              go_wp2_with fail
              go_quiet (fail)
              go_wp2
              refine ⟨⟨n + 1, by go_num, by omega, by omega, fun j hj => ?_, below_dr HBQ.out _⟩, ?_⟩
              · by_cases hjn : j < n
                · exact HSAME.out j hjn
                · obtain rfl : j = n := by omega
                  exact HY.out
              · simp [RowKit.intOf]; omega
            · have q1 : (y == x) = false := by simpa using hxy
              have hal : alikeN (db.drop k) = n := alike_is (by rw [List.length_drop, HNB.out]; omega) (fun j hj => by rw [List.getElem?_drop, List.getElem?_drop, HSAME.out j hj, HSAME.out 0 (by omega)]) (fun z hz => by
                rw [List.getElem?_drop, HSAME.out 0 (by omega)]
                rw [List.getElem?_drop] at hz
                rw [HY.out] at hz; cases hz; exact fun e => hxy (Option.some.inj e).symm)
              by_cases h3 : n ≤ 3
              · have n3 : (n : Int) ≤ 3 := by omega
                by_cases hx0 : x < 0
                · have hAN2 : AN = (⟨#[]⟩, 2) := by rw [← HAN.out]; exact ans_tell_b (tell_no (List.mem_of_getElem? HX.out) (.inl hx0))
                  have HAN2 := Lib.hid hAN2
                  clear hAN2
                  go_wp2_with fail
                  go_quiet (fail)
                  go_wp2_with fail
                  go_ret2
                  exact ⟨by rw [HAN2.out]; rfl, HB0.out.trans (Below.mono (by first | exact HBQ.out | exact below_dr HBQ.out _ | exact HBV.out) HB0.out.size)⟩
                · obtain ⟨j, rfl⟩ : ∃ j : Nat, x = j := ⟨x.toNat, by omega⟩
                  have hj0 : (0 : Int) ≤ (j : Int) := by omega
                  by_cases hjl : j < KM
                  · obtain ⟨kb, ko, rfl, hcn, hbl⟩ := kind_name (HK.out.below HBQ.out) j (by rw [HKM.out]; exact hjl)
                    have hns := name_size HN.out (j : Int)
                    rw [← HNS.out] at hcn hns
                    have hj4 : (j : Int) < (KM : Int) := by omega
                    obtain ⟨nm, hnm⟩ : ∃ nm, nameI ns (j : Int) = nm := ⟨_, rfl⟩
                    rw [hnm] at hcn hns
                    have HNM := Lib.hid hnm
                    have hrw : Hid (∀ W, Below w0.heap.size w0 W → Calls Tryz.prog 26 #[.string nm] W fun e w' => e = .returned (.bool (wordB nm)) ∧ Below W.heap.size W w') := Lib.hid fun W hW => rWord_any nm W hns (HT.out.below hW)
                    clear hnm
                    by_cases hwd : wordB nm = true
                    · rw [hwd] at hrw
                      have HWD := Lib.hid hwd
                      clear hwd
                      go_wp2_with fail
                      go_quiet (fail)
                      go_wp2_with fail
                      refine (hrw.out _ (by first | exact HBQ.out | exact below_dr HBQ.out _)).mono ?_
                      rintro e wV ⟨rfl, bV⟩
                      have HBV : Hid (Below w0.heap.size w0 wV) := Lib.hid (by first | exact HBQ.out.trans (bV.mono HBQ.out.size) | exact (below_dr HBQ.out _).trans (bV.mono (below_dr HBQ.out _).size))
                      have hxV := (HBV.out.block _ (heap_lt HX0.out)).trans HX0.out
                      have hltV := heap_lt hxV
                      obtain ⟨ad', e', hadV⟩ := (HDB.out.below HBV.out) k _ HX.out
                      cases e'
                      obtain ⟨kb', ko', e', hcnV, hblV⟩ := kind_name (HK.out.below HBV.out) j (by rw [HKM.out]; exact hjl)
                      cases e'
                      rw [← HNS.out, HNM.out] at hcnV
                      have hnz := (word_size HWD.out).2
                      have htz : tx.size ≤ 10000 := by
                        have h1 := congrArg List.length HTX.out
                        rw [List.length_append] at h1
                        have h2 : tx.data.toList.length = tx.size := Array.length_toList
                        have h3 := HTBL.out
                        simp only [List.length_append, List.length_cons, List.length_nil] at h1
                        omega
                      have e4 : (n : Int) + 1 ≤ 4 := by omega
                      have e5 : (0 : Int) ≤ (n : Int) := by omega
                      clear bV x0 x1 xf0 xf1
                      have x0 := cell_blk (i := 0) hxV; have x1 := cell_blk (i := 1) hxV; have xf0 := free_blk (i := 0) hxV; have xf1 := free_blk (i := 1) hxV; simp at x0 x1
                      clear hxV
                      have hcons : db.drop k = (j : Int) :: db.drop (k + 1) := by
                        have hl : k < db.length := by rw [HNB.out]; exact hkn
                        rw [List.drop_eq_getElem_cons hl]
                        congr 1
                        have := HX.out
                        rw [List.getElem?_eq_getElem hl] at this
                        exact Option.some.inj this
                      have hal2 : alikeN ((j : Int) :: db.drop (k + 1)) = n := by rw [← hcons]; exact hal
                      have hfin : bb ++ joinB [((2, decB n), 0), ((1, nm), 0)] ++ joinB (bodyK ns (db.drop (k + n))) = joinB (bodyK ns db) := by
                        rw [← HBJ.out, hcons, bodyK_cons, hal2, HNM.out]
                        rw [show (((2, decB n), 0) :: ((1, nm), 0) :: bodyK ns (((j : Int) :: db.drop (k + 1)).drop n) : List (KT × Nat)) = [((2, decB n), 0), ((1, nm), 0)] ++ bodyK ns (((j : Int) :: db.drop (k + 1)).drop n) from rfl, joinB_app, List.append_assoc, ← hcons, List.drop_drop]
                      have htx2 : (tx ++ ((⟨#[48, 49, 50, 51]⟩ : ByteArray).extract n (n + 1) ++ (⟨#[32]⟩ : ByteArray) ++ nm ++ (⟨#[32]⟩ : ByteArray))).data.toList = (TB ++ [100, 101, 99, 107, 32, 123, 32]) ++ (bb ++ joinB [((2, decB n), 0), ((1, nm), 0)]) := by
                        rw [bytes_app, HTX.out, digit_text hn1 h3, bytes_two, List.append_assoc]
                      have hlen2 : (bb ++ joinB [((2, decB n), 0), ((1, nm), 0)]).length ≤ 100 * (k + n) := by
                        have := joinB_two_len (n := n) (by omega) (by omega) HWD.out
                        rw [List.length_append]
                        omega
                      have hall2 : ∀ i y, i < k + n → db[i]? = some y → 0 ≤ y ∧ y < (ns.length : Int) ∧ wordB (nameI ns y) = true := fun i y hi hy => by
                        by_cases hik : i < k
                        · exact HALL.out i y hik hy
                        · have h1 := HSAME.out (i - k) (by omega)
                          rw [show k + (i - k) = i by omega, hy] at h1
                          cases h1
                          exact ⟨hj0, by rw [HNS.out, List.length_map, HKM.out]; exact hj4, by rw [HNM.out]; exact HWD.out⟩
                      have HFIN := Lib.hid hfin
                      have HTX2 := Lib.hid htx2
                      have HLEN2 := Lib.hid hlen2
                      have HALL2 := Lib.hid hall2
                      clear hcons hal2 hfin htx2 hlen2 hall2 hal
                      go_wp2_with fail
                      go_quiet (fail)
                      go_wp2
                      first
                        | (refine ⟨⟨k + n, _, bb ++ joinB [((2, decB n), 0), ((1, nm), 0)], by go_num, by omega, rfl, HTX2.out, HFIN.out, HLEN2.out, HALL2.out, by first | exact HBV.out | exact below_dr HBV.out _⟩, ?_⟩
                           simp [RowKit.intOf]; omega)
                        | (go_roundw
                           case rel => exact ⟨k + n, _, bb ++ joinB [((2, decB n), 0), ((1, nm), 0)], by go_num, by omega, rfl, HTX2.out, HFIN.out, HLEN2.out, HALL2.out, by first | exact HBV.out | exact below_dr HBV.out _⟩
                           case measure => simp [RowKit.intOf]; omega)
                    · have hwf : wordB nm = false := by simpa using hwd
                      have hAN2 : AN = (⟨#[]⟩, 2) := by rw [← HAN.out]; exact ans_tell_b (tell_no (List.mem_of_getElem? HX.out) (.inr (.inr (by rw [HNM.out]; exact hwf))))
                      have HAN2 := Lib.hid hAN2
                      rw [hwf] at hrw
                      clear hAN2 hwd hwf
                      go_wp2_with fail
                      go_quiet (fail)
                      go_wp2_with fail
                      refine (hrw.out _ (by first | exact HBQ.out | exact below_dr HBQ.out _)).mono ?_
                      rintro e wV ⟨rfl, bV⟩
                      have HBV : Hid (Below w0.heap.size w0 wV) := Lib.hid (by first | exact HBQ.out.trans (bV.mono HBQ.out.size) | exact (below_dr HBQ.out _).trans (bV.mono (below_dr HBQ.out _).size))
                      clear bV
                      go_wp2_with fail
                      go_ret2
                      exact ⟨by rw [HAN2.out]; rfl, HB0.out.trans (Below.mono (by first | exact HBQ.out | exact below_dr HBQ.out _ | exact HBV.out) HB0.out.size)⟩
                  · have hj5 : ¬ ((j : Int) < (KM : Int)) := by omega
                    have hj6 : (KM : Int) ≤ (j : Int) := by omega
                    have hAN2 : AN = (⟨#[]⟩, 2) := by rw [← HAN.out]; exact ans_tell_b (tell_no (List.mem_of_getElem? HX.out) (.inr (.inl (by rw [HNS.out, List.length_map, HKM.out]; exact hj6))))
                    have HAN2 := Lib.hid hAN2
                    clear hAN2
                    go_wp2_with fail
                    go_quiet (fail)
                    go_wp2_with fail
                    go_ret2
                    exact ⟨by rw [HAN2.out]; rfl, HB0.out.trans (Below.mono (by first | exact HBQ.out | exact below_dr HBQ.out _ | exact HBV.out) HB0.out.size)⟩
              · have n3 : ¬ ((n : Int) ≤ 3) := by omega
                have hAN2 : AN = (⟨#[]⟩, 2) := by rw [← HAN.out]; exact run_no_b (k := k) (by rw [hal]; omega)
                have HAN2 := Lib.hid hAN2
                clear hAN2
                go_wp2_with fail
                go_quiet (fail)
                go_wp2_with fail
                go_ret2
                exact ⟨by rw [HAN2.out]; rfl, HB0.out.trans (Below.mono (by first | exact HBQ.out | exact below_dr HBQ.out _ | exact HBV.out) HB0.out.size)⟩
          · have k3 : ¬ ((k : Int) + (n : Int) < (NB : Int)) := by omega
            have hal : alikeN (db.drop k) = n := alike_is (by rw [List.length_drop, HNB.out]; omega) (fun j hj => by rw [List.getElem?_drop, List.getElem?_drop, HSAME.out j hj, HSAME.out 0 (by omega)]) (fun z hz => by
              rw [List.getElem?_drop, HSAME.out 0 (by omega)]
              rw [List.getElem?_drop] at hz
              rw [List.getElem?_eq_none (by rw [HNB.out]; omega)] at hz; cases hz)
            by_cases h3 : n ≤ 3
            · have n3 : (n : Int) ≤ 3 := by omega
              by_cases hx0 : x < 0
              · have hAN2 : AN = (⟨#[]⟩, 2) := by rw [← HAN.out]; exact ans_tell_b (tell_no (List.mem_of_getElem? HX.out) (.inl hx0))
                have HAN2 := Lib.hid hAN2
                clear hAN2
                go_wp2_with fail
                have k3w : IntKind.i64.wrap ((k : Int) + (n : Int)) = (k : Int) + (n : Int) := IntWalk.i64_in _ (by omega)
                have k3q : decide ((k : Int) + (n : Int) < (NB : Int)) = false := decide_eq_false (by omega)
                go_quiet (fail)
                go_wp2_with fail
                go_ret2
                exact ⟨by rw [HAN2.out]; rfl, HB0.out.trans (Below.mono (by first | exact HBQ.out | exact below_dr HBQ.out _ | exact HBV.out) HB0.out.size)⟩
              · obtain ⟨j, rfl⟩ : ∃ j : Nat, x = j := ⟨x.toNat, by omega⟩
                have hj0 : (0 : Int) ≤ (j : Int) := by omega
                by_cases hjl : j < KM
                · obtain ⟨kb, ko, rfl, hcn, hbl⟩ := kind_name (HK.out.below HBQ.out) j (by rw [HKM.out]; exact hjl)
                  have hns := name_size HN.out (j : Int)
                  rw [← HNS.out] at hcn hns
                  have hj4 : (j : Int) < (KM : Int) := by omega
                  obtain ⟨nm, hnm⟩ : ∃ nm, nameI ns (j : Int) = nm := ⟨_, rfl⟩
                  rw [hnm] at hcn hns
                  have HNM := Lib.hid hnm
                  have hrw : Hid (∀ W, Below w0.heap.size w0 W → Calls Tryz.prog 26 #[.string nm] W fun e w' => e = .returned (.bool (wordB nm)) ∧ Below W.heap.size W w') := Lib.hid fun W hW => rWord_any nm W hns (HT.out.below hW)
                  clear hnm
                  by_cases hwd : wordB nm = true
                  · rw [hwd] at hrw
                    have HWD := Lib.hid hwd
                    clear hwd
                    go_wp2_with fail
                    have k3w : IntKind.i64.wrap ((k : Int) + (n : Int)) = (k : Int) + (n : Int) := IntWalk.i64_in _ (by omega)
                    have k3q : decide ((k : Int) + (n : Int) < (NB : Int)) = false := decide_eq_false (by omega)
                    go_quiet (fail)
                    go_wp2_with fail
                    refine (hrw.out _ (by first | exact HBQ.out | exact below_dr HBQ.out _)).mono ?_
                    rintro e wV ⟨rfl, bV⟩
                    have HBV : Hid (Below w0.heap.size w0 wV) := Lib.hid (by first | exact HBQ.out.trans (bV.mono HBQ.out.size) | exact (below_dr HBQ.out _).trans (bV.mono (below_dr HBQ.out _).size))
                    have hxV := (HBV.out.block _ (heap_lt HX0.out)).trans HX0.out
                    have hltV := heap_lt hxV
                    obtain ⟨ad', e', hadV⟩ := (HDB.out.below HBV.out) k _ HX.out
                    cases e'
                    obtain ⟨kb', ko', e', hcnV, hblV⟩ := kind_name (HK.out.below HBV.out) j (by rw [HKM.out]; exact hjl)
                    cases e'
                    rw [← HNS.out, HNM.out] at hcnV
                    have hnz := (word_size HWD.out).2
                    have htz : tx.size ≤ 10000 := by
                      have h1 := congrArg List.length HTX.out
                      rw [List.length_append] at h1
                      have h2 : tx.data.toList.length = tx.size := Array.length_toList
                      have h3 := HTBL.out
                      simp only [List.length_append, List.length_cons, List.length_nil] at h1
                      omega
                    have e4 : (n : Int) + 1 ≤ 4 := by omega
                    have e5 : (0 : Int) ≤ (n : Int) := by omega
                    clear bV x0 x1 xf0 xf1
                    have x0 := cell_blk (i := 0) hxV; have x1 := cell_blk (i := 1) hxV; have xf0 := free_blk (i := 0) hxV; have xf1 := free_blk (i := 1) hxV; simp at x0 x1
                    clear hxV
                    have hcons : db.drop k = (j : Int) :: db.drop (k + 1) := by
                      have hl : k < db.length := by rw [HNB.out]; exact hkn
                      rw [List.drop_eq_getElem_cons hl]
                      congr 1
                      have := HX.out
                      rw [List.getElem?_eq_getElem hl] at this
                      exact Option.some.inj this
                    have hal2 : alikeN ((j : Int) :: db.drop (k + 1)) = n := by rw [← hcons]; exact hal
                    have hfin : bb ++ joinB [((2, decB n), 0), ((1, nm), 0)] ++ joinB (bodyK ns (db.drop (k + n))) = joinB (bodyK ns db) := by
                      rw [← HBJ.out, hcons, bodyK_cons, hal2, HNM.out]
                      rw [show (((2, decB n), 0) :: ((1, nm), 0) :: bodyK ns (((j : Int) :: db.drop (k + 1)).drop n) : List (KT × Nat)) = [((2, decB n), 0), ((1, nm), 0)] ++ bodyK ns (((j : Int) :: db.drop (k + 1)).drop n) from rfl, joinB_app, List.append_assoc, ← hcons, List.drop_drop]
                    have htx2 : (tx ++ ((⟨#[48, 49, 50, 51]⟩ : ByteArray).extract n (n + 1) ++ (⟨#[32]⟩ : ByteArray) ++ nm ++ (⟨#[32]⟩ : ByteArray))).data.toList = (TB ++ [100, 101, 99, 107, 32, 123, 32]) ++ (bb ++ joinB [((2, decB n), 0), ((1, nm), 0)]) := by
                      rw [bytes_app, HTX.out, digit_text hn1 h3, bytes_two, List.append_assoc]
                    have hlen2 : (bb ++ joinB [((2, decB n), 0), ((1, nm), 0)]).length ≤ 100 * (k + n) := by
                      have := joinB_two_len (n := n) (by omega) (by omega) HWD.out
                      rw [List.length_append]
                      omega
                    have hall2 : ∀ i y, i < k + n → db[i]? = some y → 0 ≤ y ∧ y < (ns.length : Int) ∧ wordB (nameI ns y) = true := fun i y hi hy => by
                      by_cases hik : i < k
                      · exact HALL.out i y hik hy
                      · have h1 := HSAME.out (i - k) (by omega)
                        rw [show k + (i - k) = i by omega, hy] at h1
                        cases h1
                        exact ⟨hj0, by rw [HNS.out, List.length_map, HKM.out]; exact hj4, by rw [HNM.out]; exact HWD.out⟩
                    have HFIN := Lib.hid hfin
                    have HTX2 := Lib.hid htx2
                    have HLEN2 := Lib.hid hlen2
                    have HALL2 := Lib.hid hall2
                    clear hcons hal2 hfin htx2 hlen2 hall2 hal
                    go_wp2_with fail
                    go_quiet (fail)
                    go_wp2
                    first
                      | (refine ⟨⟨k + n, _, bb ++ joinB [((2, decB n), 0), ((1, nm), 0)], by go_num, by omega, rfl, HTX2.out, HFIN.out, HLEN2.out, HALL2.out, by first | exact HBV.out | exact below_dr HBV.out _⟩, ?_⟩
                         simp [RowKit.intOf]; omega)
                      | (go_roundw
                         case rel => exact ⟨k + n, _, bb ++ joinB [((2, decB n), 0), ((1, nm), 0)], by go_num, by omega, rfl, HTX2.out, HFIN.out, HLEN2.out, HALL2.out, by first | exact HBV.out | exact below_dr HBV.out _⟩
                         case measure => simp [RowKit.intOf]; omega)
                  · have hwf : wordB nm = false := by simpa using hwd
                    have hAN2 : AN = (⟨#[]⟩, 2) := by rw [← HAN.out]; exact ans_tell_b (tell_no (List.mem_of_getElem? HX.out) (.inr (.inr (by rw [HNM.out]; exact hwf))))
                    have HAN2 := Lib.hid hAN2
                    rw [hwf] at hrw
                    clear hAN2 hwd hwf
                    go_wp2_with fail
                    have k3w : IntKind.i64.wrap ((k : Int) + (n : Int)) = (k : Int) + (n : Int) := IntWalk.i64_in _ (by omega)
                    have k3q : decide ((k : Int) + (n : Int) < (NB : Int)) = false := decide_eq_false (by omega)
                    go_quiet (fail)
                    go_wp2_with fail
                    refine (hrw.out _ (by first | exact HBQ.out | exact below_dr HBQ.out _)).mono ?_
                    rintro e wV ⟨rfl, bV⟩
                    have HBV : Hid (Below w0.heap.size w0 wV) := Lib.hid (by first | exact HBQ.out.trans (bV.mono HBQ.out.size) | exact (below_dr HBQ.out _).trans (bV.mono (below_dr HBQ.out _).size))
                    clear bV
                    go_wp2_with fail
                    go_ret2
                    exact ⟨by rw [HAN2.out]; rfl, HB0.out.trans (Below.mono (by first | exact HBQ.out | exact below_dr HBQ.out _ | exact HBV.out) HB0.out.size)⟩
                · have hj5 : ¬ ((j : Int) < (KM : Int)) := by omega
                  have hj6 : (KM : Int) ≤ (j : Int) := by omega
                  have hAN2 : AN = (⟨#[]⟩, 2) := by rw [← HAN.out]; exact ans_tell_b (tell_no (List.mem_of_getElem? HX.out) (.inr (.inl (by rw [HNS.out, List.length_map, HKM.out]; exact hj6))))
                  have HAN2 := Lib.hid hAN2
                  clear hAN2
                  go_wp2_with fail
                  have k3w : IntKind.i64.wrap ((k : Int) + (n : Int)) = (k : Int) + (n : Int) := IntWalk.i64_in _ (by omega)
                  have k3q : decide ((k : Int) + (n : Int) < (NB : Int)) = false := decide_eq_false (by omega)
                  go_quiet (fail)
                  go_wp2_with fail
                  go_ret2
                  exact ⟨by rw [HAN2.out]; rfl, HB0.out.trans (Below.mono (by first | exact HBQ.out | exact below_dr HBQ.out _ | exact HBV.out) HB0.out.size)⟩
            · have n3 : ¬ ((n : Int) ≤ 3) := by omega
              have hAN2 : AN = (⟨#[]⟩, 2) := by rw [← HAN.out]; exact run_no_b (k := k) (by rw [hal]; omega)
              have HAN2 := Lib.hid hAN2
              clear hAN2
              go_wp2_with fail
              have k3w : IntKind.i64.wrap ((k : Int) + (n : Int)) = (k : Int) + (n : Int) := IntWalk.i64_in _ (by omega)
              have k3q : decide ((k : Int) + (n : Int) < (NB : Int)) = false := decide_eq_false (by omega)
              go_quiet (fail)
              go_wp2_with fail
              go_ret2
              exact ⟨by rw [HAN2.out]; rfl, HB0.out.trans (Below.mono (by first | exact HBQ.out | exact below_dr HBQ.out _ | exact HBV.out) HB0.out.size)⟩
        · have hkB : k = NB := by omega
          have k1 : ¬ ((k : Int) < (NB : Int)) := by omega
          have htb2 : tellB ns db = true := tell_of (by rw [HNB.out]; exact h41) (fun y hy => by
            obtain ⟨i, hi⟩ := List.getElem?_of_mem hy
            exact HALL.out i y (by have := (List.getElem?_eq_some_iff.1 hi).1; rw [HNB.out] at this; omega) hi)
          have hbe := HBJ.out
          rw [List.drop_of_length_le (by rw [HNB.out]; omega), bodyK_nil, joinB_nil, List.append_nil] at hbe
          have htd : joinB (deckK ns da ++ deckK ns db) = TB ++ ([100, 101, 99, 107, 32, 123, 32] ++ bb ++ [125, 10]) := by
            rw [joinB_app, HTBE.out]
            congr 1
            unfold deckK
            rw [joinB_app, joinB_app, joinB_head, joinB_tail, hbe]
          have hjl : (joinK (deckK ns da ++ deckK ns db)).size ≤ 10000 := by
            rw [joinK_app, size_app]
            have e1 := deck_len HTA.out
            have e2 := deck_len htb2
            unfold joinB at e1 e2
            rw [Array.length_toList] at e1 e2
            have e3 : (joinK (deckK ns da)).size ≤ 4100 := e1
            have e4 : (joinK (deckK ns db)).size ≤ 4100 := e2
            omega
          have htz : tx.size ≤ 10000 := by
            have h1 := congrArg List.length HTX.out
            rw [List.length_append] at h1
            have h2 : tx.data.toList.length = tx.size := Array.length_toList
            have h3 := HTBL.out
            simp only [List.length_append, List.length_cons, List.length_nil] at h1
            omega
          have hty3 : tx ++ (⟨#[125]⟩ ++ (⟨#[10]⟩ : ByteArray)) = joinK (deckK ns da ++ deckK ns db) := data_inj (by
            rw [bytes_app, HTX.out]
            refine Eq.trans ?_ htd.symm
            simp [List.append_assoc])
          have han := fun r hr => HAN.out.symm.trans (ans_read HTA.out htb2 r hr)
          have HAN := Lib.hid han
          have HJL := Lib.hid hjl
          have HTY := Lib.hid hty3
          have hcv := conv_nl wA
          clear hbe htd hjl hty3 han htb2 HTX HBJ HALL HTA HTBE HTBL
          go_wp2_with fail
          obtain ⟨w2, hw2⟩ : ∃ w2, w2 = wA.alloc (.cells #[.int .u8 10] 5) := ⟨_, rfl⟩
          rw [← hw2]
          have hb2 : Below w0.heap.size w0 w2 := by rw [hw2]; exact HBW.out.alloc HBW.out.size _
          rw [HTY.out]
          have HB2 := Lib.hid hb2
          clear hcv htz HTY HBW hb2 hw2 k1 x0 x1 xf0 xf1 hltA
          generalize joinK (deckK ns da ++ deckK ns db) = TX at *
          rw [rounds_succ]
          have hrd := rread_any TX p c ks w2 (by have := HJL.out; unfold maxLen; omega) (HK.out.below HB2.out) (by rw [HKM.out]; exact hm) (HT.out.below HB2.out)
          rw [← HNS.out] at hrd
          obtain ⟨r, hr⟩ : ∃ r, readOf ns TX = r := ⟨_, rfl⟩
          rw [hr] at hrd
          have han := HAN.out r hr
          obtain ⟨⟨er, l, cl⟩, ra, rb⟩ := r
          simp only [] at han
          have HAN := Lib.hid han
          have HRD := Lib.hid hrd
          rw [HKM.out] at HRD
          clear hrd hr han
          go_wp2_with fail
          refine HRD.out.mono ?_
          rintro e w7 ⟨a, n, c', a', n', c'', rfl, hna, hnb, b7⟩
          simp only [] at hna hnb
          have hb7 : Below w0.heap.size w0 w7 := HB2.out.trans (b7.mono HB2.out.size)
          have hx7 := (hb7.block w.heap.size (heap_lt HX0.out)).trans HX0.out
          have hlw : w.heap.size < w7.heap.size := heap_lt hx7
          have HX7 := Lib.hid hx7
          obtain ⟨hia, rfl⟩ := ints_of_nats hna
          obtain ⟨hib, rfl⟩ := ints_of_nats hnb
          have hma : (intsOf ra).length ≤ maxLen := by
            have := hna.1
            rcases hna.2 with ⟨hv, h0⟩ | ⟨g, cap, cur, hv, _, _, h1, h2, _⟩
            · simp only [intsOf, List.length_map]; rw [h0]; exact Nat.zero_le _
            · simp only [intsOf, List.length_map]; omega
          have hmb : (intsOf rb).length ≤ maxLen := by
            rcases hnb.2 with ⟨hv, h0⟩ | ⟨g, cap, cur, hv, _, _, h1, h2, _⟩
            · simp only [intsOf, List.length_map]; rw [h0]; exact Nat.zero_le _
            · simp only [intsOf, List.length_map]; omega
          have hla1 : da.length ≤ maxLen := by rw [HNA.out]; exact hla
          have hlb1 : db.length ≤ maxLen := by rw [HNB.out]; exact hlb
          obtain ⟨w8, hw8⟩ : ∃ w8, w8 = (w7.alloc (.cells #[.slice a (intsOf ra).length c', .slice a' (intsOf rb).length c''] 23)).alloc (.cells #[.int .i64 er, .int .i64 l, .int .i64 cl] 31) := ⟨_, rfl⟩
          have hb8 : Below w7.heap.size w7 w8 := by rw [hw8]; exact ((Below.refl _ _).alloc (Nat.le_refl _) _).alloc (by simp) _
          have he1 := Lib.hid (ints_any w8 a qa c' ca (intsOf ra) da (hia.below hb8) ((HDA.out.below hb7).below hb8) hma hla1)
          have he2 := Lib.hid (fun W (hb : Below w8.heap.size w8 W) => ints_any W a' qb c'' cb (intsOf rb) db ((hib.below hb8).below hb) (((HDB.out.below hb7).below hb8).below hb) hmb hlb1)
          rw [HNA.out] at he1
          have he2 := he2.out
          rw [HNB.out] at he2
          have he2 := Lib.hid he2
          have HB8 := Lib.hid (HB0.out.trans ((hb7.trans (hb8.mono hb7.size)).mono HB0.out.size))
          have HW8 := Lib.hid hw8
          have hs8 : w8.heap.size = w7.heap.size + 1 + 1 := by rw [hw8]; simp
          have HS8 := Lib.hid hs8
          have x0 := cell_blk (i := 0) hx7; have x1 := cell_blk (i := 1) hx7; have xf0 := free_blk (i := 0) hx7; have xf1 := free_blk (i := 1) hx7; simp at x0 x1
          clear hx7 hia hib hma hmb hla1 hlb1 hw8 hb8 hna hnb b7 hb7 hs8
          generalize (intsOf ra).length = na at *
          generalize (intsOf rb).length = nb at *
          generalize hsa : sameB (intsOf ra) da = SA at *
          generalize hsb : sameB (intsOf rb) db = SB at *
          clear hsa hsb
          by_cases he : er = 0
          · subst he
            have han := HAN.out
            cases SA with
            | false =>
              rw [if_neg (fun h => by cases h.2.1)] at han
              have HAN := Lib.hid han
              clear han
              go_wp2_with fail
              rw [show (w7.alloc (.cells #[.slice a na c', .slice a' nb c''] 23)).alloc (.cells #[.int .i64 0, .int .i64 l, .int .i64 cl] 31) = w8 from HW8.out.symm]
              refine he1.out.mono ?_
              rintro e w9 ⟨rfl, b9⟩
              have HB9 := Lib.hid (HB8.out.trans (b9.mono HB8.out.size))
              clear b9
              go_wp2
              go_ret2
              exact ⟨by rw [HAN.out]; rfl, HB9.out⟩
            | true =>
              have f8 : w8.heap[w7.heap.size]? = some (.cells #[.slice a na c', .slice a' nb c''] 23 (0, 0)) := by
                rw [HW8.out]
                exact (Below.heap_alloc _ _ _ (by simp)).trans (heap_alloc_new _ _)
              have f9 : w8.heap[w.heap.size]? = some (.cells #[.slice qa NA ca, .slice qb NB cb] 23 (0, 0)) := by
                rw [HW8.out]
                exact (Below.heap_alloc _ _ _ (by simp; omega)).trans ((Below.heap_alloc _ _ _ hlw).trans HX7.out)
              have F8 := Lib.hid f8
              have F9 := Lib.hid f9
              clear f8 f9
              cases SB with
              | false =>
                rw [if_neg (fun h => by cases h.2.2)] at han
                have HAN := Lib.hid han
                clear han
                go_wp2_with fail
                rw [show (w7.alloc (.cells #[.slice a na c', .slice a' nb c''] 23)).alloc (.cells #[.int .i64 0, .int .i64 l, .int .i64 cl] 31) = w8 from HW8.out.symm]
                refine he1.out.mono ?_
                rintro e w9 ⟨rfl, b9⟩
                have g8 := (b9.block _ (heap_lt F8.out)).trans F8.out
                have g9 := (b9.block _ (heap_lt F9.out)).trans F9.out
                have i0 := cell_blk (i := 0) g8; have i1 := cell_blk (i := 1) g8; have if0 := free_blk (i := 0) g8; have if1 := free_blk (i := 1) g8; simp at i0 i1
                have j0 := cell_blk (i := 0) g9; have j1 := cell_blk (i := 1) g9; have jf0 := free_blk (i := 0) g9; have jf1 := free_blk (i := 1) g9; simp at j0 j1
                have HB9 := Lib.hid (HB8.out.trans (b9.mono HB8.out.size))
                have he3 := Lib.hid (he2.out w9 b9)
                clear b9 g8 g9
                go_wp2_with fail
                refine he3.out.mono ?_
                rintro e w10 ⟨rfl, b10⟩
                have HB10 := Lib.hid (HB9.out.trans (b10.mono HB9.out.size))
                clear b10
                go_wp2
                go_ret2
                exact ⟨by rw [HAN.out]; rfl, HB10.out⟩
              | true =>
                rw [if_pos ⟨rfl, rfl, rfl⟩] at han
                have HAN := Lib.hid han
                clear han
                go_wp2_with fail
                rw [show (w7.alloc (.cells #[.slice a na c', .slice a' nb c''] 23)).alloc (.cells #[.int .i64 0, .int .i64 l, .int .i64 cl] 31) = w8 from HW8.out.symm]
                refine he1.out.mono ?_
                rintro e w9 ⟨rfl, b9⟩
                have g8 := (b9.block _ (heap_lt F8.out)).trans F8.out
                have g9 := (b9.block _ (heap_lt F9.out)).trans F9.out
                have i0 := cell_blk (i := 0) g8; have i1 := cell_blk (i := 1) g8; have if0 := free_blk (i := 0) g8; have if1 := free_blk (i := 1) g8; simp at i0 i1
                have j0 := cell_blk (i := 0) g9; have j1 := cell_blk (i := 1) g9; have jf0 := free_blk (i := 0) g9; have jf1 := free_blk (i := 1) g9; simp at j0 j1
                have HB9 := Lib.hid (HB8.out.trans (b9.mono HB8.out.size))
                have he3 := Lib.hid (he2.out w9 b9)
                clear b9 g8 g9
                go_wp2_with fail
                refine he3.out.mono ?_
                rintro e w10 ⟨rfl, b10⟩
                have HB10 := Lib.hid (HB9.out.trans (b10.mono HB9.out.size))
                clear b10
                go_wp2
                go_ret2
                exact ⟨by rw [HAN.out]; rfl, HB10.out⟩
          · have q1 : ((er : Int) != 0) = true := by simp; omega
            have han := HAN.out
            rw [if_neg (fun h => he h.1)] at han
            have HAN := Lib.hid han
            clear he han
            go_wp2
            go_ret2
            rw [← HW8.out]
            exact ⟨by rw [HAN.out]; rfl, HB8.out⟩
      · have hAN2 : AN = (⟨#[]⟩, 2) := by
          rw [← HAN.out]
          refine ans_tell_b ?_
          cases ht : tellB ns db with
          | false => rfl
          | true => have := (tell_each ht).1; rw [HNB.out] at this; omega
        have HAN2 := Lib.hid hAN2
        have hi41 : ¬ ((NB : Int) ≤ 40) := by omega
        clear hAN2
        go_wp2_with fail
        go_ret2
        exact ⟨by rw [HAN2.out]; rfl, HB0.out.trans (HB1.out.mono HB0.out.size)⟩
  · have hAN2 : AN = (⟨#[]⟩, 2) := by
      rw [← HAN.out]
      refine ans_tell_a ?_
      cases ht : tellB ns da with
      | false => rfl
      | true => have := (tell_each ht).1; rw [HNA.out] at this; omega
    have HAN2 := Lib.hid hAN2
    have hi40 : ¬ ((NA : Int) ≤ 40) := by omega
    clear hAN2
    go_enter Tryz.func10, Tryz.ntmps10
    go_wp2_with fail
    rw [← HW0.out]
    refine wp_loop_rounds 3 ?_
    rw [rounds_succ]
    go_wp2_with fail
    go_ret2
    exact ⟨by rw [HAN2.out]; rfl, HB0.out⟩
end Go.Proofs.YtbkjminjkjnkpaaGreatDoor
