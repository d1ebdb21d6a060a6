import Derived.Test.YtlbbabojejimpaaQSymLast
import Derived.Deep.DeepCutAuto
/- slices' symMerge of two ranges in order: one range in order. -/
namespace Go.Proofs.Ytlbbabojejimpaa.Sym
open Go.RowKit Go.Lib Go.Shelf

theorem mem_take2 {A B : List Nat} {s e x : Nat} (h : x ∈ A.take s ++ B.take e) : x ∈ A ++ B := by
  rcases List.mem_append.1 h with h | h
  · exact List.mem_append_left _ (List.mem_of_mem_take h)
  · exact List.mem_append_right _ (List.mem_of_mem_take h)
theorem mem_drop2 {A B : List Nat} {s e x : Nat} (h : x ∈ A.drop s ++ B.drop e) : x ∈ A ++ B := by
  rcases List.mem_append.1 h with h | h
  · exact List.mem_append_left _ (List.mem_of_mem_drop h)
  · exact List.mem_append_right _ (List.mem_of_mem_drop h)
theorem row_cut {P A B S : List Nat} (x y : Nat) : (P ++ A.take x) ++ (A.drop x ++ (B.take y ++ (B.drop y ++ S))) = P ++ (A ++ (B ++ S)) := by
  rw [List.append_assoc, ← List.append_assoc (A.take x), List.take_append_drop, ← List.append_assoc (B.take y), List.take_append_drop]
def MergeAt (N g cap gn : Nat) (cb : Array Value) (f : Nat → Int) (Q : Nat → Prop) (w0 : World) (k : Nat) : Prop := ∀ (P A B S : List Nat) (a m b len : Nat) (w : World), A.length + B.length = k → Kept g w0 w → (P ++ (A ++ (B ++ S))).length = len → P.length = a → a + A.length = m → m + B.length = b → 0 < A.length → 0 < B.length → Up f A → Up f B → (∀ x ∈ A ++ B, Q x) → len ≤ 1000000 → Lies N w g (P ++ (A ++ (B ++ S))) →
    Calls Try.prog 61 #[.slice (some ⟨g, 0, none⟩) len cap, .int .i64 a, .int .i64 m, .int .i64 b, .func (.func gn) #[] cb] w fun e w' => e = .returned (.tuple #[]) ∧ Kept g w w' ∧ ∃ C : List Nat, C.Perm (A ++ B) ∧ Up f C ∧ Lies N w' g (P ++ (C ++ S))
set_option maxHeartbeats 16000000 in
set_option maxRecDepth 100000 in
theorem merge_any (N g cap gn : Nat) (cb : Array Value) (f : Nat → Int) (Q : Nat → Prop) (w0 : World) (eg : ∀ args w, (callFunc gn args).run Try.prog w = .ok (.enter gn args) w) (hc : CmpIs w0 g gn cb f Q)
     : ∀ k : Nat, MergeAt N g cap gn cb f Q w0 k := by
  intro k
  induction k using Nat.strongRecOn with
  | ind k ih =>
  intro P A B S a m b len w hk hk0 hlen ha hm hb hA0 hB0 hA hB hQ hf h
  by_cases hA1 : A.length = 1
  · obtain ⟨z, rfl⟩ := List.length_eq_one_iff.1 hA1
    have hm1 : m = a + 1 := by rw [← hm]; rfl
    rw [hm1]
    exact merge_one N g cap gn cb f Q w0 eg hc P B S z a b len w hk0 (by rw [← hlen]; simp; omega) ha (by omega) hB hQ hf h
  by_cases hB1 : B.length = 1
  · obtain ⟨z, rfl⟩ := List.length_eq_one_iff.1 hB1
    have hb1 : b = m + 1 := by rw [← hb]; rfl
    rw [hb1]
    refine (merge_last N g cap gn cb f Q w0 eg hc P A S z a m len w hk0 (by rw [← hlen]; simp; omega) ha hm (by omega) hA (fun x hx => hQ x (by rcases List.mem_cons.1 hx with rfl | h <;> simp [*])) hf h).mono fun e w' ⟨he, hk', C, hC, u, l⟩ => ?_
    exact ⟨he, hk', C, hC.trans (List.perm_append_singleton z A).symm, u, l⟩
  obtain ⟨la, hla⟩ : ∃ la, A.length = la := ⟨_, rfl⟩
  obtain ⟨lb, hlb⟩ : ∃ lb, B.length = lb := ⟨_, rfl⟩
  have hle : a + la + lb + S.length = len := by rw [← hlen, ← ha, ← hla, ← hlb]; simp; omega
  rw [hla] at hA0 hA1 hm hk
  rw [hlb] at hB0 hB1 hb hk
  obtain ⟨mid, hmid⟩ : ∃ mid, a + (la + lb) / 2 = mid := ⟨_, rfl⟩
  obtain ⟨nn, hnn⟩ : ∃ nn, mid + m = nn := ⟨_, rfl⟩
  obtain ⟨lo, hlo⟩ : ∃ lo, (if m > mid then nn - b else a) = lo := ⟨_, rfl⟩
  obtain ⟨hi, hhi⟩ : ∃ hi, (if m > mid then mid else m) = hi := ⟨_, rfl⟩
  have hlh : (m > mid → lo + lb = mid ∧ hi = mid) ∧ (¬ m > mid → lo = a ∧ hi = m) := ⟨fun h => by rw [if_pos h] at hlo hhi; omega, fun h => by rw [if_neg h] at hlo hhi; omega⟩
  have hb1 : a ≤ lo ∧ lo ≤ hi ∧ hi ≤ mid ∧ hi ≤ m ∧ mid ≤ lo + lb := by
    by_cases hmm : m > mid
    · have := hlh.1 hmm; omega
    · have := hlh.2 hmm; omega
  have H := Lib.hid h
  have HC := Lib.hid hc
  have HK0 := Lib.hid hk0
  have HQ := Lib.hid hQ
  have HUA := Lib.hid hA
  have HUB := Lib.hid hB
  have HA := Lib.hid ha
  have HLA := Lib.hid hla
  have HLB := Lib.hid hlb
  have HLH := Lib.hid hlh
  have HIH := Lib.hid ih
  have HLE := Lib.hid hlen
  have e0 : ((m : Int) - (a : Int) == 1) = false := by simp; omega
  have e1 : ((b : Int) - (m : Int) == 1) = false := by simp; omega
  have e2 : ((a : Int) + (b : Int)) / 2 = (mid : Int) := by omega
  have e3 : (mid : Int) + (m : Int) = (nn : Int) := by omega
  have e4 : (nn : Int) - 1 = ((nn - 1 : Nat) : Int) := by omega
  clear h hc hk0 hQ hA hB ha hla hlb hlo hhi hlh ih hlen
  go_enter Try.func61, Try.ntmps61
  go_upto_if 140 with fail
  go_cut [20, 21] (fun s20 s21 wx => s20 = .int .i64 lo ∧ s21 = .int .i64 hi ∧ wx = w)
  case first =>
    as_aux_lemma =>
      by_cases hmm : (m : Int) > (mid : Int)
      · have := HLH.out.1 (by omega)
        have e5 : (nn : Int) - (b : Int) = (lo : Int) := by omega
        obtain ⟨-, rfl⟩ := this
        go_wp2_with fail
        go_meet
        exact ⟨rfl, rfl, rfl⟩
      · obtain ⟨rfl, rfl⟩ := HLH.out.2 (by omega)
        go_wp2_with fail
        go_meet
        exact ⟨rfl, rfl, rfl⟩
  case rest =>
    as_aux_lemma =>
      obtain ⟨rfl, rfl, hw⟩ := hcut
      have hw := hw.symm
      subst hw
      go_wp2_with fail
      go_loopw [20, 21] (fun vs vr wr => ∃ (s r : Nat), vs = .int .i64 s ∧ vr = .int .i64 r ∧ lo ≤ s ∧ s ≤ r ∧ r ≤ hi ∧ Kept g w wr ∧ Lies N wr g (P ++ (A ++ (B ++ S))) ∧ Hid ((s = lo ∨ ∃ x y, A[s - a - 1]? = some x ∧ B[mid - s]? = some y ∧ f x ≤ f y) ∧ (r = hi ∨ ∃ x y, B[mid - 1 - r]? = some x ∧ A[r - a]? = some y ∧ f x < f y))) (fun vs vr _ => (RowKit.intOf vr).toNat - (RowKit.intOf vs).toNat)
      case atStart => exact ⟨lo, hi, by rfl, by rfl, by omega, by omega, by omega, Kept.refl _ _, H.out, Lib.hid ⟨.inl rfl, .inl rfl⟩⟩
      case round =>
        obtain ⟨s, r, rfl, rfl, hs, hsr, hr, hk, hL, hh⟩ := hrel
        rename World => wA
        have hla := HLA.out
        have hlb := HLB.out
        have haP := HA.out
        by_cases hlt : s < r
        · obtain ⟨c, hcd⟩ : ∃ c, (s + r) / 2 = c := ⟨_, rfl⟩
          have ec : ((s : Int) + (r : Int)) / 2 = (c : Int) := by omega
          have hci : s ≤ c ∧ c < r := by omega
          obtain ⟨q, hq⟩ : ∃ q, nn - 1 - c = q := ⟨_, rfl⟩
          have eq : ((nn - 1 : Nat) : Int) - (c : Int) = (q : Int) := by omega
          obtain ⟨x, hx⟩ : ∃ x, B[mid - 1 - c]? = some x := ⟨_, List.getElem?_eq_getElem (by omega)⟩
          obtain ⟨y, hy⟩ : ∃ y, A[c - a]? = some y := ⟨_, List.getElem?_eq_getElem (by omega)⟩
          have hrow : (P ++ (A ++ (B ++ S)))[q]? = some x := by
            rw [List.getElem?_append_right (by omega), List.getElem?_append_right (by omega), List.getElem?_append_left (by omega), show q - P.length - A.length = mid - 1 - c by omega]
            exact hx
          have hrow0 : (P ++ (A ++ (B ++ S)))[c]? = some y := by
            rw [List.getElem?_append_right (by omega), List.getElem?_append_left (by omega), show c - P.length = c - a by omega]
            exact hy
          have c1 := hL.cell hrow
          have c2 := hL.cell hrow0
          obtain ⟨d, hd⟩ : ∃ d, Lib.compareInt (f x) (f y) = d := ⟨_, rfl⟩
          have hneg := compare_neg (f x) (f y)
          rw [hd] at hneg
          have hcall : Hid (∀ n, Calls Try.prog gn (#[.int .i64 x, .int .i64 y] ++ cb) (wA.drewN n) fun e w' => e = .returned (.int .i64 d) ∧ ∃ q, w' = (wA.drewN n).drewN q) := Lib.hid fun n => by
            have := HC.out (wA.drewN n) (kept_drewN (HK0.out.trans hk) n) x y (HQ.out x (List.mem_append_right _ (List.mem_of_getElem? hx))) (HQ.out y (List.mem_append_left _ (List.mem_of_getElem? hy)))
            rwa [hd] at this
          have HK := Lib.hid hk
          have HL := Lib.hid hL
          have k0 : (0 : Int) ≤ (c : Int) := by omega
          have k1 : (c : Int) < (len : Int) := by omega
          have k2 : (0 : Int) ≤ (q : Int) := by omega
          have k3 : (q : Int) < (len : Int) := by omega
          have HX := Lib.hid hx
          have HY := Lib.hid hy
          have HN := Lib.hid hneg
          clear hk hL hrow hrow0 hd hneg hx hy hla hlb haP
          by_cases hr0 : d < 0
          · have HU : Hid ((s = lo ∨ ∃ x y, A[s - a - 1]? = some x ∧ B[mid - s]? = some y ∧ f x ≤ f y) ∧ (c = hi ∨ ∃ x y, B[mid - 1 - c]? = some x ∧ A[c - a]? = some y ∧ f x < f y)) := Lib.hid ⟨hh.out.1, .inr ⟨x, y, HX.out, HY.out, HN.out.1 hr0⟩⟩
            have hr1 : decide (d < 0) = true := by simp; omega
            clear hh
            go_wp2_with fail
            go_quiet (first | (go_at_fn gn; refine Calls.quiet_of (hcall.out _)))
            go_wp2_with fail
            go_roundw
            case rel => exact ⟨s, c, by rfl, by rfl, by omega, by omega, by omega, kept_drewN HK.out _, HL.out.drewN _, HU⟩
            case measure => simp [RowKit.intOf]; omega
          · have HU : Hid ((c + 1 = lo ∨ ∃ x y, A[c + 1 - a - 1]? = some x ∧ B[mid - (c + 1)]? = some y ∧ f x ≤ f y) ∧ (r = hi ∨ ∃ x y, B[mid - 1 - r]? = some x ∧ A[r - a]? = some y ∧ f x < f y)) := Lib.hid ⟨.inr ⟨y, x, by rw [show c + 1 - a - 1 = c - a by omega]; exact HY.out, by rw [show mid - (c + 1) = mid - 1 - c by omega]; exact HX.out, by have := HN.out; omega⟩, hh.out.2⟩
            have hr1 : decide (d < 0) = false := by simp; omega
            clear hh
            go_wp2_with fail
            go_quiet (first | (go_at_fn gn; refine Calls.quiet_of (hcall.out _)))
            go_wp2_with fail
            go_roundw
            case rel => exact ⟨c + 1, r, by go_num, by rfl, by omega, by omega, by omega, kept_drewN HK.out _, HL.out.drewN _, HU⟩
            case measure => simp [RowKit.intOf]; omega
        · obtain rfl : s = r := by omega
          obtain ⟨sa, hsa⟩ : ∃ sa, s - a = sa := ⟨_, rfl⟩
          obtain ⟨e, he⟩ : ∃ e, mid - s = e := ⟨_, rfl⟩
          obtain ⟨en, hen⟩ : ∃ en, m + e = en := ⟨_, rfl⟩
          have HCUT := Lib.hid (cut_le f HUA.out HUB.out (s := sa) (e := e) (by
              rcases hh.out.1 with h | ⟨x, y, hx, hy, hz⟩
              · by_cases hmm : m > mid
                · have := HLH.out.1 hmm; exact .inr (.inl (by omega))
                · have := HLH.out.2 hmm; exact .inl (by omega)
              · exact .inr (.inr ⟨x, y, by rw [← hsa]; exact hx, by rw [← he]; exact hy, hz⟩)) (by
              rcases hh.out.2 with h | ⟨x, y, hx, hy, hz⟩
              · by_cases hmm : m > mid
                · have := HLH.out.1 hmm; exact .inl (by omega)
                · have := HLH.out.2 hmm; exact .inr (.inl (by omega))
              · exact .inr (.inr ⟨x, y, by rw [← he, show mid - s - 1 = mid - 1 - s by omega]; exact hx, by rw [← hsa]; exact hy, Int.le_of_lt hz⟩)))
          have ha1 : (A.take sa).length = sa := by rw [List.length_take]; omega
          have ha2 : (A.drop sa).length = la - sa := by rw [List.length_drop]; omega
          have hb1' : (B.take e).length = e := by rw [List.length_take]; omega
          have hb2 : (B.drop e).length = lb - e := by rw [List.length_drop]; omega
          have HLS := Lib.hid (And.intro ha1 (And.intro ha2 (And.intro hb1' hb2)))
          have HK := Lib.hid hk
          have HL := Lib.hid hL
          have e5 : (nn : Int) - (s : Int) = (en : Int) := by omega
          have hbd : sa ≤ la ∧ e ≤ lb ∧ a + sa = s ∧ s + e = mid := by omega
          clear hk hL hh hlt ha1 ha2 hb1' hb2 hla hlb
          go_upto_region 39 with fail
          go_cut [185] (fun sx wx => sx = .bool (decide (s < m ∧ m < en)) ∧ wx = wA)
          case first =>
            as_aux_lemma =>
              by_cases q1 : (s : Int) < (m : Int)
              · by_cases q2 : (m : Int) < (en : Int)
                · go_wp2_with fail
                  go_meet
                  exact ⟨congrArg Value.bool (by simp; omega), rfl⟩
                · go_wp2_with fail
                  go_meet
                  exact ⟨congrArg Value.bool (by simp; omega), rfl⟩
              · go_wp2_with fail
                go_meet
                exact ⟨congrArg Value.bool (by simp; omega), rfl⟩
          case rest =>
            as_aux_lemma =>
              obtain ⟨rfl, hw⟩ := hcut
              have hw := hw.symm
              subst hw
              go_upto_if 185 with fail
              go_cut [] (fun wx => Kept g w wx ∧ Lies N wx g ((P ++ A.take sa) ++ (B.take e ++ (A.drop sa ++ (B.drop e ++ S)))))
              case first =>
                as_aux_lemma =>
                  by_cases hq : s < m ∧ m < en
                  · have hd : decide (s < m ∧ m < en) = true := by simp [hq]
                    have hrot := rotate_any N g cap (.func (.func gn) #[] cb) (P ++ A.take sa) (A.drop sa) (B.take e) (B.drop e ++ S) s m en len wA (by rw [row_cut]; exact HLE.out) (by rw [List.length_append, HA.out, HLS.out.1]; omega) (by rw [HLS.out.2.1]; omega) (by rw [HLS.out.2.2.1]; omega) (by rw [HLS.out.2.1]; omega) (by rw [HLS.out.2.2.1]; omega) hf (by rw [row_cut]; exact HL.out)
                    have HR := Lib.hid hrot
                    clear hrot
                    go_wp2_with fail
                    refine HR.out.mono ?_
                    rintro e' w2 ⟨rfl, hk2, hL2⟩
                    have HK2 := Lib.hid (HK.out.trans hk2)
                    have HL2 := Lib.hid hL2
                    clear hk2 hL2
                    go_wp2_with fail
                    go_meet
                    exact ⟨HK2.out, HL2.out⟩
                  · have hd : decide (s < m ∧ m < en) = false := by simp [hq]
                    have HL2 : Hid (Lies N wA g ((P ++ A.take sa) ++ (B.take e ++ (A.drop sa ++ (B.drop e ++ S))))) := Lib.hid (by
                      have h1 := HL.out
                      rw [← row_cut sa e] at h1
                      by_cases hz : e = 0
                      · subst hz; simpa using h1
                      · have hz2 : A.drop sa = [] := List.length_eq_zero_iff.1 (by rw [HLS.out.2.1]; omega)
                        rw [hz2] at h1 ⊢
                        simpa using h1)
                    go_wp2_with fail
                    go_meet
                    exact ⟨HK.out, HL2.out⟩
              case rest =>
                as_aux_lemma =>
                  obtain ⟨hk1, hL1⟩ := hcut
                  rename World => wB
                  have HKB := Lib.hid hk1
                  have HLB1 := Lib.hid hL1
                  clear hk1 hL1 HK HL
                  go_upto_region 41 with fail
                  go_cut [199] (fun sx wx => sx = .bool (decide (a < s ∧ s < mid)) ∧ wx = wB)
                  case first =>
                    as_aux_lemma =>
                      by_cases q1 : (a : Int) < (s : Int)
                      · by_cases q2 : (s : Int) < (mid : Int)
                        · go_wp2_with fail
                          go_meet
                          exact ⟨congrArg Value.bool (by simp; omega), rfl⟩
                        · go_wp2_with fail
                          go_meet
                          exact ⟨congrArg Value.bool (by simp; omega), rfl⟩
                      · go_wp2_with fail
                        go_meet
                        exact ⟨congrArg Value.bool (by simp; omega), rfl⟩
                  case rest =>
                    as_aux_lemma =>
                      obtain ⟨rfl, hw⟩ := hcut
                      have hw := hw.symm
                      subst hw
                      go_upto_if 199 with fail
                      go_cut [] (fun wx => Kept g w wx ∧ ∃ C : List Nat, C.Perm (A.take sa ++ B.take e) ∧ Up f C ∧ Lies N wx g (P ++ (C ++ (A.drop sa ++ (B.drop e ++ S)))))
                      case first =>
                        as_aux_lemma =>
                          by_cases hq : a < s ∧ s < mid
                          · have hd : decide (a < s ∧ s < mid) = true := by simp [hq]
                            have hrec := HIH.out (sa + e) (by omega) P (A.take sa) (B.take e) (A.drop sa ++ (B.drop e ++ S)) a s mid len wB (by rw [HLS.out.1, HLS.out.2.2.1]) (HK0.out.trans HKB.out) (by rw [← HLE.out]; simp; omega) HA.out (by rw [HLS.out.1]; omega) (by rw [HLS.out.2.2.1]; omega) (by rw [HLS.out.1]; omega) (by rw [HLS.out.2.2.1]; omega) (HUA.out.take f sa) (HUB.out.take f e) (fun x hx => HQ.out x (mem_take2 hx)) hf (by have := HLB1.out; rwa [List.append_assoc] at this)
                            have HR := Lib.hid hrec
                            clear hrec
                            go_wp2_with fail
                            refine HR.out.mono ?_
                            rintro e' w2 ⟨rfl, hk2, C, hC, hu, hL2⟩
                            have HK2 := Lib.hid (HKB.out.trans hk2)
                            have HL2 := Lib.hid (And.intro hC (And.intro hu hL2))
                            clear hk2 hC hu hL2
                            go_wp2_with fail
                            go_meet
                            exact ⟨HK2.out, C, HL2.out⟩
                          · have hd : decide (a < s ∧ s < mid) = false := by simp [hq]
                            have HU2 : Hid (Up f (A.take sa ++ B.take e)) := Lib.hid (by
                              by_cases hz : e = 0
                              · subst hz; rw [List.take_zero, List.append_nil]; exact HUA.out.take f sa
                              · have hz2 : sa = 0 := by omega
                                rw [hz2, List.take_zero, List.nil_append]
                                exact HUB.out.take f e)
                            go_wp2_with fail
                            go_meet
                            exact ⟨HKB.out, _, List.Perm.refl _, HU2.out, by have := HLB1.out; rwa [List.append_assoc, ← List.append_assoc (A.take sa)] at this⟩
                      case rest =>
                        as_aux_lemma =>
                          obtain ⟨hk1, C, hC, hu, hL1⟩ := hcut
                          rename World => wC
                          have hCl : C.length = sa + e := by rw [hC.length_eq, List.length_append, HLS.out.1, HLS.out.2.2.1]
                          have HKC := Lib.hid hk1
                          have HLC := Lib.hid hL1
                          have HC1 := Lib.hid (And.intro hC hu)
                          have HCL := Lib.hid hCl
                          clear hk1 hL1 HKB HLB1 hC hu hCl
                          go_upto_region 43 with fail
                          go_cut [213] (fun sx wx => sx = .bool (decide (mid < en ∧ en < b)) ∧ wx = wC)
                          case first =>
                            as_aux_lemma =>
                              by_cases q1 : (mid : Int) < (en : Int)
                              · by_cases q2 : (en : Int) < (b : Int)
                                · go_wp2_with fail
                                  go_meet
                                  exact ⟨congrArg Value.bool (by simp; omega), rfl⟩
                                · go_wp2_with fail
                                  go_meet
                                  exact ⟨congrArg Value.bool (by simp; omega), rfl⟩
                              · go_wp2_with fail
                                go_meet
                                exact ⟨congrArg Value.bool (by simp; omega), rfl⟩
                          case rest =>
                            as_aux_lemma =>
                              obtain ⟨rfl, hw⟩ := hcut
                              have hw := hw.symm
                              subst hw
                              by_cases hq : mid < en ∧ en < b
                              · have hd : decide (mid < en ∧ en < b) = true := by simp [hq]
                                have hrec := HIH.out ((la - sa) + (lb - e)) (by omega) (P ++ C) (A.drop sa) (B.drop e) S mid en b len wC (by rw [HLS.out.2.1, HLS.out.2.2.2]) (HK0.out.trans HKC.out) (by rw [← HLE.out]; simp [HCL.out, HLS.out.2.1, HLS.out.2.2.2, HLA.out, HLB.out]; omega) (by rw [List.length_append, HA.out, HCL.out]; omega) (by rw [HLS.out.2.1]; omega) (by rw [HLS.out.2.2.2]; omega) (by rw [HLS.out.2.1]; omega) (by rw [HLS.out.2.2.2]; omega) (HUA.out.drop f sa) (HUB.out.drop f e) (fun x hx => HQ.out x (mem_drop2 hx)) hf (by rw [List.append_assoc]; exact HLC.out)
                                have HR := Lib.hid hrec
                                clear hrec
                                go_wp2_with fail
                                refine HR.out.mono ?_
                                rintro e' w2 ⟨rfl, hk2, D, hD, hu, hL2⟩
                                have HK2 := Lib.hid (HKC.out.trans hk2)
                                have HL2 := Lib.hid hL2
                                have HH := Lib.hid (halves f HCUT.out HC1.out.1 hD HC1.out.2 hu)
                                clear hk2 hD hu hL2
                                go_wp2_with fail
                                go_end0
                                exact ⟨rfl, HK2.out, C ++ D, HH.out.1, HH.out.2, by have := HL2.out; rwa [List.append_assoc, ← List.append_assoc C] at this⟩
                              · have hd : decide (mid < en ∧ en < b) = false := by simp [hq]
                                have HU2 : Hid (Up f (A.drop sa ++ B.drop e)) := Lib.hid (by
                                  by_cases hz : lb - e = 0
                                  · have hz2 : B.drop e = [] := List.length_eq_zero_iff.1 (by rw [HLS.out.2.2.2]; omega)
                                    rw [hz2, List.append_nil]; exact HUA.out.drop f sa
                                  · have hz2 : A.drop sa = [] := List.length_eq_zero_iff.1 (by rw [HLS.out.2.1]; omega)
                                    rw [hz2, List.nil_append]
                                    exact HUB.out.drop f e)
                                have HH := Lib.hid (halves f HCUT.out HC1.out.1 (List.Perm.refl _) HC1.out.2 HU2.out)
                                go_wp2_with fail
                                go_end0
                                exact ⟨rfl, HKC.out, _, HH.out.1, HH.out.2, by have := HLC.out; rwa [← List.append_assoc (A.drop sa), ← List.append_assoc C] at this⟩
end Go.Proofs.Ytlbbabojejimpaa.Sym
