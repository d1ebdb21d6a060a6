import Derived.Test.YtlbbabojejimpaaQSymAny
import Derived.Test.YtlbbabojejimpaaQSymIns
/- slices.SortStableFunc of a row of numbers, however many: the same ones, in order. -/
namespace Go.Proofs.Ytlbbabojejimpaa.Sym
open Go.RowKit Go.Lib Go.Shelf

/-- Each block of so many is in order. -/
def Blk (f : Nat → Int) (bs : Nat) (D : List Nat) : Prop := ∀ t, Up f ((D.drop (t * bs)).take bs)
theorem blk_nil (f : Nat → Int) (bs : Nat) : Blk f bs [] := fun t => by rw [List.drop_nil, List.take_nil]; exact List.Pairwise.nil
theorem blk_snoc {f : Nat → Int} {bs t0 : Nat} {D C : List Nat} (hD : Blk f bs D) (hl : D.length = t0 * bs) (hC : Up f C) (hc : C.length ≤ bs) : Blk f bs (D ++ C) := by
  intro t
  by_cases ht : t < t0
  · have h1 : (t + 1) * bs ≤ t0 * bs := Nat.mul_le_mul_right _ ht
    rw [Nat.succ_mul] at h1
    rw [List.drop_append_of_le_length (by omega), List.take_append_of_le_length (by rw [List.length_drop]; omega)]
    exact hD t
  · by_cases he : t = t0
    · subst he
      rw [← hl, List.drop_left, List.take_of_length_le hc]
      exact hC
    · have h1 : (t0 + 1) * bs ≤ t * bs := Nat.mul_le_mul_right _ (by omega)
      rw [Nat.succ_mul] at h1
      rw [List.drop_of_length_le (by rw [List.length_append]; omega), List.take_nil]
      exact List.Pairwise.nil
theorem blk_all {f : Nat → Int} {bs : Nat} {D : List Nat} (h : Blk f bs D) (hl : D.length ≤ bs) : Up f D := by
  have := h 0
  rwa [Nat.zero_mul, List.drop_zero, List.take_of_length_le hl] at this
theorem blk_at {f : Nat → Int} {bs a : Nat} {R : List Nat} (h : Blk f bs R) (t : Nat) (ha : a = t * bs) : Up f ((R.drop a).take bs) := by subst ha; exact h t
theorem three {L : List Nat} {a k : Nat} : (L.drop a).take k ++ L.drop (a + k) = L.drop a := by rw [← List.drop_drop, List.take_append_drop]

set_option maxHeartbeats 16000000 in
set_option maxRecDepth 100000 in
theorem stable_any (N g cap gn : Nat) (cb : Array Value) (f : Nat → Int) (Q : Nat → Prop) (w0 : World) (eg : ∀ args w, (callFunc gn args).run Try.prog w = .ok (.enter gn args) w) (hc : CmpIs w0 g gn cb f Q)
    (L : List Nat) (n : Nat) (w : World) (hk0 : Kept g w0 w) (hn : L.length = n) (hQ : ∀ x ∈ L, Q x) (hf : n ≤ 1000000) (h : Lies N w g L) :
    Calls Try.prog 58 #[.slice (some ⟨g, 0, none⟩) n cap, .int .i64 n, .func (.func gn) #[] cb] w fun e w' => e = .returned (.tuple #[]) ∧ Kept g w w' ∧ ∃ C : List Nat, C.Perm L ∧ Up f C ∧ Lies N w' g C := by
  have H := Lib.hid h
  have HINS := Lib.hid (insertion_any N g cap gn cb f Q w0 eg hc)
  have HMRG := Lib.hid (merge_any N g cap gn cb f Q w0 eg hc)
  have HK0 := Lib.hid hk0
  have HQ := Lib.hid hQ
  have HN := Lib.hid hn
  clear h hc hk0 hQ hn
  go_enter Try.func58, Try.ntmps58
  go_wp2_with fail
  go_loopw [7, 8] (fun va vb wr => ∃ (a t : Nat) (D : List Nat), va = .int .i64 a ∧ vb = .int .i64 ((a + 20 : Nat) : Int) ∧ a ≤ n ∧ Kept g w wr ∧ Lies N wr g (D ++ L.drop a) ∧ Hid (a = t * 20 ∧ D.length = a ∧ D.Perm (L.take a) ∧ Blk f 20 D)) (fun va _ _ => n - (RowKit.intOf va).toNat)
  case atStart => exact ⟨0, 0, [], by rfl, by rfl, by omega, Kept.refl _ _, by rw [List.drop_zero, List.nil_append]; exact H.out, Lib.hid ⟨by omega, rfl, by rw [List.take_zero], blk_nil f 20⟩⟩
  case round =>
    obtain ⟨a, t, D, rfl, rfl, han, hk, hL, hh⟩ := hrel
    rename World => wA
    have hn := HN.out
    obtain ⟨b, hb⟩ : ∃ b, a + 20 = b := ⟨_, rfl⟩
    rw [hb]
    by_cases hlt : b ≤ n
    · have hA : ((L.drop a).take 20).length = 20 := by rw [List.length_take, List.length_drop]; omega
      have hi := HINS.out D ((L.drop a).take 20) (L.drop b) a b n wA (HK0.out.trans hk) (by rw [hh.out.2.1, hA, List.length_drop]; omega) hh.out.2.1 (by rw [hA]; exact hb) (fun x hx => HQ.out x (List.mem_of_mem_drop (List.mem_of_mem_take hx))) hf (by rw [← hb, three]; exact hL)
      have HI := Lib.hid hi
      have HK := Lib.hid hk
      have k1 : (b : Int) ≤ (n : Int) := by omega
      clear hi hk hL hA hn
      go_wp2_with fail
      refine HI.out.mono ?_
      rintro e w2 ⟨rfl, hk2, C, hC, hu, hL2⟩
      have HK2 := Lib.hid (HK.out.trans hk2)
      have HL2 := Lib.hid hL2
      have HE : Hid (b = (t + 1) * 20 ∧ (D ++ C).length = b ∧ (D ++ C).Perm (L.take b) ∧ Blk f 20 (D ++ C)) := Lib.hid (by
        have hcl : C.length = 20 := by rw [hC.length_eq, List.length_take, List.length_drop]; have := HN.out; omega
        refine ⟨by have := hh.out.1; omega, by rw [List.length_append, hh.out.2.1, hcl]; exact hb, ?_, blk_snoc hh.out.2.2.2 (by rw [hh.out.2.1]; exact hh.out.1) hu (by omega)⟩
        rw [← hb, List.take_add]
        exact hh.out.2.2.1.append hC)
      clear hk2 hC hu hL2 hh
      go_wp2_with fail
      go_roundw
      case rel => exact ⟨b, t + 1, D ++ C, by rfl, by go_num, hlt, HK2.out, by rw [List.append_assoc]; exact HL2.out, HE⟩
      case measure => simp [RowKit.intOf]; omega
    · have hA : (L.drop a).length = n - a := by rw [List.length_drop]; omega
      have hi := HINS.out D (L.drop a) [] a n n wA (HK0.out.trans hk) (by rw [hh.out.2.1, hA]; simp; omega) hh.out.2.1 (by rw [hA]; omega) (fun x hx => HQ.out x (List.mem_of_mem_drop hx)) hf (by rw [List.append_nil]; exact hL)
      have HI := Lib.hid hi
      have HK := Lib.hid hk
      clear hi hk hL hA hn
      go_wp2_with fail
      refine HI.out.mono ?_
      rintro e w2 ⟨rfl, hk2, C0, hC, hu, hL2⟩
      have HK2 := Lib.hid (HK.out.trans hk2)
      have HL2 : Hid (Lies N w2 g (D ++ C0)) := Lib.hid (by rw [List.append_nil] at hL2; exact hL2)
      have HE : Hid ((D ++ C0).Perm L ∧ Blk f 20 (D ++ C0)) := Lib.hid (by
        have hcl : C0.length ≤ 20 := by rw [hC.length_eq, List.length_drop]; have := HN.out; omega
        refine ⟨?_, blk_snoc hh.out.2.2.2 (by rw [hh.out.2.1]; exact hh.out.1) hu hcl⟩
        have := hh.out.2.2.1.append hC
        rwa [List.take_append_drop] at this)
      clear hk2 hC hu hL2 hh HK HI
      go_wp2_with fail
      go_loopw [6] (fun v6 wr => ∃ (bs : Nat) (R : List Nat), v6 = .int .i64 bs ∧ 20 ≤ bs ∧ bs ≤ 2000020 ∧ Kept g w wr ∧ Lies N wr g R ∧ Hid (R.Perm L ∧ Blk f bs R)) (fun v6 _ => n - (RowKit.intOf v6).toNat)
      case atStart => exact ⟨20, _, by rfl, by omega, by omega, HK2.out, HL2.out, HE⟩
      case round =>
        clear HK2 HL2 HE
        obtain ⟨bs, R, rfl, hbs, hbu, hk, hL, hh⟩ := hrel
        rename World => wB
        have HK := Lib.hid hk
        have HL := Lib.hid hL
        clear hk hL
        by_cases hbn : bs < n
        · obtain ⟨c2, hc2⟩ : ∃ c2, 2 * bs = c2 := ⟨_, rfl⟩
          have e2 : (2 : Int) * (bs : Int) = (c2 : Int) := by omega
          have e3 : (bs : Int) * (2 : Int) = (c2 : Int) := by omega
          have kb : (bs : Int) < (n : Int) := by omega
          have HRQ : Hid (∀ x ∈ R, Q x) := Lib.hid fun x hx => HQ.out x (hh.out.1.mem_iff.1 hx)
          have HRN : Hid (R.length = n) := Lib.hid (hh.out.1.length_eq.trans HN.out)
          go_wp2_with fail
          go_loopw [7, 8] (fun va vb wr => ∃ (a t : Nat) (D : List Nat), va = .int .i64 a ∧ vb = .int .i64 ((a + c2 : Nat) : Int) ∧ a ≤ n ∧ Kept g w wr ∧ Lies N wr g (D ++ R.drop a) ∧ Hid (a = t * c2 ∧ D.length = a ∧ D.Perm (R.take a) ∧ Blk f c2 D)) (fun va _ _ => n - (RowKit.intOf va).toNat)
          case atStart => exact ⟨0, 0, [], by rfl, by go_num, by omega, HK.out, by rw [List.drop_zero, List.nil_append]; exact HL.out, Lib.hid ⟨by omega, rfl, by rw [List.take_zero], blk_nil f c2⟩⟩
          case round =>
            clear HK HL
            obtain ⟨a, t, D, rfl, rfl, han, hk, hL, hd⟩ := hrel
            rename World => wC
            have hrn := HRN.out
            obtain ⟨b, hb⟩ : ∃ b, a + c2 = b := ⟨_, rfl⟩
            rw [hb]
            obtain ⟨m, hm⟩ : ∃ m, a + bs = m := ⟨_, rfl⟩
            have e4 : (a : Int) + (bs : Int) = (m : Int) := by omega
            have t1 : a = (2 * t) * bs := by rw [hd.out.1, ← hc2, ← Nat.mul_assoc, Nat.mul_comm t 2]
            have t2 : m = (2 * t + 1) * bs := by rw [← hm, t1, Nat.add_mul, Nat.one_mul]
            by_cases hlt : b ≤ n
            · have hA : ((R.drop a).take bs).length = bs := by rw [List.length_take, List.length_drop]; omega
              have hB : ((R.drop m).take bs).length = bs := by rw [List.length_take, List.length_drop]; omega
              have hrow : (R.drop a).take bs ++ ((R.drop m).take bs ++ R.drop b) = R.drop a := by
                rw [show b = m + bs by omega, three, ← hm, three]
              have hi := HMRG.out (bs + bs) D ((R.drop a).take bs) ((R.drop m).take bs) (R.drop b) a m b n wC (by rw [hA, hB]) (HK0.out.trans hk) (by rw [hrow, List.length_append, hd.out.2.1, List.length_drop]; omega) hd.out.2.1 (by rw [hA]; exact hm) (by rw [hB]; omega) (by rw [hA]; omega) (by rw [hB]; omega) (blk_at hh.out.2 _ t1) (blk_at hh.out.2 _ t2) (fun x hx => HRQ.out x (by rcases List.mem_append.1 hx with h | h <;> exact List.mem_of_mem_drop (List.mem_of_mem_take h))) hf (by rw [hrow]; exact hL)
              have HI := Lib.hid hi
              have HK := Lib.hid hk
              have k1 : (b : Int) ≤ (n : Int) := by omega
              have HT := Lib.hid (And.intro hA hB)
              clear hi hk hL hA hB hrow hrn t1 t2
              go_wp2_with fail
              refine HI.out.mono ?_
              rintro e w2 ⟨rfl, hk2, C, hC, hu, hL2⟩
              have HK2 := Lib.hid (HK.out.trans hk2)
              have HL2 := Lib.hid hL2
              have HE2 : Hid (b = (t + 1) * c2 ∧ (D ++ C).length = b ∧ (D ++ C).Perm (R.take b) ∧ Blk f c2 (D ++ C)) := Lib.hid (by
                have hcl : C.length = c2 := by rw [hC.length_eq, List.length_append, HT.out.1, HT.out.2]; omega
                refine ⟨by rw [Nat.succ_mul, ← hd.out.1]; exact hb.symm, by rw [List.length_append, hd.out.2.1, hcl]; exact hb, ?_, blk_snoc hd.out.2.2.2 (by rw [hd.out.2.1]; exact hd.out.1) hu (by omega)⟩
                have e6 : R.take b = R.take a ++ ((R.drop a).take bs ++ (R.drop m).take bs) := by
                  rw [show b = a + (bs + bs) by omega, List.take_add, List.take_add, List.drop_drop, hm]
                rw [e6]
                exact hd.out.2.2.1.append hC)
              clear hk2 hC hu hL2 hd
              go_wp2_with fail
              go_roundw
              case rel => exact ⟨b, t + 1, D ++ C, by rfl, by go_num, hlt, HK2.out, by rw [List.append_assoc]; exact HL2.out, HE2⟩
              case measure => simp [RowKit.intOf]; omega
            · have HK := Lib.hid hk
              have hdl : (R.drop a).length = n - a := by rw [List.length_drop]; omega
              have fin : ∀ C : List Nat, C.Perm (R.drop a) → Up f C → (D ++ C).Perm L ∧ Blk f c2 (D ++ C) := fun C hC hu => by
                have hcl : C.length ≤ c2 := by rw [hC.length_eq, hdl]; omega
                refine ⟨?_, blk_snoc hd.out.2.2.2 (by rw [hd.out.2.1]; exact hd.out.1) hu hcl⟩
                have := hd.out.2.2.1.append hC
                rw [List.take_append_drop] at this
                exact this.trans hh.out.1
              have FIN := Lib.hid fin
              have k1 : ¬ (b : Int) ≤ (n : Int) := by omega
              by_cases hmn : m < n
              · have hA : ((R.drop a).take bs).length = bs := by rw [List.length_take, List.length_drop]; omega
                have hB : (R.drop m).length = n - m := by rw [List.length_drop]; omega
                have hrow : (R.drop a).take bs ++ (R.drop m ++ []) = R.drop a := by
                  rw [List.append_nil, ← hm, three]
                have hBu : Up f (R.drop m) := by
                  have := blk_at hh.out.2 _ t2
                  rwa [List.take_of_length_le (by rw [hB]; omega)] at this
                have hi := HMRG.out (bs + (n - m)) D ((R.drop a).take bs) (R.drop m) [] a m n n wC (by rw [hA, hB]) (HK0.out.trans hk) (by rw [hrow, List.length_append, hd.out.2.1, hdl]; omega) hd.out.2.1 (by rw [hA]; exact hm) (by rw [hB]; omega) (by rw [hA]; omega) (by rw [hB]; omega) (blk_at hh.out.2 _ t1) hBu (fun x hx => HRQ.out x (by rcases List.mem_append.1 hx with h | h; exact List.mem_of_mem_drop (List.mem_of_mem_take h); exact List.mem_of_mem_drop h)) hf (by rw [hrow]; exact hL)
                have HI := Lib.hid hi
                have HRW : Hid ((R.drop a).take bs ++ R.drop m = R.drop a) := Lib.hid (by rw [List.append_nil] at hrow; exact hrow)
                have k2 : (m : Int) < (n : Int) := by omega
                clear hi hk hL hA hB hrow hrn t1 t2 hBu fin hdl
                go_wp2_with fail
                refine HI.out.mono ?_
                rintro e w2 ⟨rfl, hk2, C, hC, hu, hL2⟩
                have HK2 := Lib.hid (HK.out.trans hk2)
                have HL2 : Hid (Lies N w2 g (D ++ C)) := Lib.hid (by rw [List.append_nil] at hL2; exact hL2)
                have HE2 := Lib.hid (FIN.out C (by rw [HRW.out] at hC; exact hC) hu)
                clear hk2 hC hu hL2
                go_wp2_with fail
                go_roundw
                case rel => exact ⟨c2, _, by go_num, by omega, by omega, HK2.out, HL2.out, HE2⟩
                case measure => simp [RowKit.intOf]; omega
              · have hu : Up f (R.drop a) := by
                  have := blk_at hh.out.2 _ t1
                  rwa [List.take_of_length_le (by rw [hdl]; omega)] at this
                have HE2 := Lib.hid (FIN.out _ (List.Perm.refl _) hu)
                have HL2 := Lib.hid hL
                have k2 : ¬ (m : Int) < (n : Int) := by omega
                clear hk hL hrn t1 t2 fin hdl hu
                go_wp2_with fail
                go_roundw
                case rel => exact ⟨c2, _, by go_num, by omega, by omega, HK.out, HL2.out, HE2⟩
                case measure => simp [RowKit.intOf]; omega
        · have HU := Lib.hid (blk_all hh.out.2 (by rw [hh.out.1.length_eq, HN.out]; omega))
          have HP := Lib.hid hh.out.1
          clear hh
          go_wp2_with fail
          go_end0
          exact ⟨rfl, HK.out, R, HP.out, HU.out, HL.out⟩
set_option maxHeartbeats 4000000 in
theorem sortStable_any (N g cap gn : Nat) (cb : Array Value) (f : Nat → Int) (Q : Nat → Prop) (w0 : World) (eg : ∀ args w, (callFunc gn args).run Try.prog w = .ok (.enter gn args) w) (hc : CmpIs w0 g gn cb f Q)
    (L : List Nat) (n : Nat) (w : World) (hk0 : Kept g w0 w) (hn : L.length = n) (hQ : ∀ x ∈ L, Q x) (hf : n ≤ 1000000) (h : Lies N w g L) :
    Calls Try.prog 52 #[.slice (some ⟨g, 0, none⟩) n cap, .func (.func gn) #[] cb] w fun e w' => e = .returned (.tuple #[]) ∧ Kept g w w' ∧ ∃ C : List Nat, C.Perm L ∧ Up f C ∧ Lies N w' g C := by
  have HS := Lib.hid (stable_any N g cap gn cb f Q w0 eg hc L n w hk0 hn hQ hf h)
  clear hc hk0 hn hQ h
  go_enter Try.func52, Try.ntmps52
  go_wp2_with fail
  refine HS.out.mono ?_
  rintro e w1 ⟨rfl, hk, hr⟩
  have HK := Lib.hid hk
  have HR := Lib.hid hr
  clear hk hr
  go_wp2_with fail
  go_end0
  exact ⟨rfl, HK.out, HR.out⟩
end Go.Proofs.Ytlbbabojejimpaa.Sym
