/- joustref01: number, great, mark, remark: what they answer. -/
import Derived.Test.YtaffgdgdojdoiaaGreatDoorRefSmall
namespace Go.Proofs.YtaffgdgdojdoiaaGreatDoor
open Go.RowKit Go.Lib

theorem rdigit_eq (r : Int) (b : Bool) (h : digB r = b) (w : World) : Calls Tryz.prog 85 #[.int .i32 r] w fun e w' => e = .returned (.bool b) ∧ w = w' := by
  subst h; exact rdigit_any r w

set_option maxHeartbeats 1000000 in
theorem rnumber_any (s : ByteArray) (w : World) (hs : s.size ≤ maxLen) :
    Calls Tryz.prog 86 #[.string s] w fun e w' => e = .returned (.int .i64 (numOf s).1) ∧ Below w.heap.size w w' := by
  unfold maxLen at hs
  go_enter Tryz.func86, Tryz.ntmps86
  go_wp2
  go_loopw [3] (fun vp wr => ∃ (pos fuel v : Nat), vp = .int .i64 pos ∧ Below w.heap.size w wr ∧ numGo s fuel pos v = numOf s ∧ s.size ≤ pos + fuel ∧ pos ≤ s.size) (fun vp _ => s.size - (RowKit.intOf vp).toNat)
  case atStart => exact ⟨0, s.size, 0, rfl, Below.refl _ _, rfl, by omega, by omega⟩
  case round =>
    obtain ⟨pos, fuel, v, rfl, hbw, hgo, hfu, hpos⟩ := hrel
    by_cases hp : pos < s.size
    · obtain ⟨f, rfl⟩ : ∃ f, fuel = f + 1 := ⟨fuel - 1, by omega⟩
      have hbv := byteAt_val s pos hp
      have hlt := byteAt_lt s pos
      have hm := numGo_more s f pos v hp
      have hst := numGo_stop s (f + 1) pos v
      rw [hgo] at hm hst
      have HM := Lib.hid hm
      have HS := Lib.hid hst
      have HB := Lib.hid hbv
      clear hm hst hgo hbv
      generalize byteAt s pos = b at *
      cases hd : digB b with
      | true =>
        have HR := Lib.hid (HM.out hd)
        have hd' : digB ((s[pos]'hp).toNat : Int) = true := by rw [HB.out]; exact hd
        have HD := fun W => rdigit_eq ((s[pos]'hp).toNat : Int) true hd' W
        have HD := Lib.hid HD
        have h255 : ((s[pos]'hp).toNat : Int) ≤ 255 := by have := (s[pos]'hp).toNat_lt; omega
        clear hd hd'
        go_wp2_with (go_at_call 85; refine (HD.out _).mono ?_; rintro e w1 ⟨rfl, rfl⟩)
        go_roundw
        case rel => exact ⟨pos + 1, f, _, by go_num, hbw, HR.out.symm, by omega, by omega⟩
        case measure => simp [RowKit.intOf]; omega
      | false =>
        have HR := Lib.hid (HS.out hd)
        have hd' : digB ((s[pos]'hp).toNat : Int) = false := by rw [HB.out]; exact hd
        have HD := fun W => rdigit_eq ((s[pos]'hp).toNat : Int) false hd' W
        have HD := Lib.hid HD
        have h255 : ((s[pos]'hp).toNat : Int) ≤ 255 := by have := (s[pos]'hp).toNat_lt; omega
        clear hd hd'
        go_wp2_with (go_at_call 85; refine (HD.out _).mono ?_; rintro e w1 ⟨rfl, rfl⟩)
        go_ret
        exact ⟨ret_int' (by rw [HR.out]), hbw⟩
    · have HR : Hid ((pos, v) = numOf s) := by rw [← hgo, numGo_end _ _ _ _ hp]; exact rfl
      clear hgo
      go_wp2
      go_ret
      exact ⟨ret_int' (by rw [← HR.out]), hbw⟩

set_option maxHeartbeats 1000000 in
theorem rgreat_any (s : ByteArray) (w : World) (hs : s.size ≤ maxLen) (hd : ∀ i, i < s.size → digB (byteAt s i) = true) :
    Calls Tryz.prog 87 #[.string s] w fun e w' => e = .returned (.bool (decide (99999 < refVal s))) ∧ Below w.heap.size w w' := by
  unfold maxLen at hs
  have HDg := Lib.hid hd
  clear hd
  go_enter Tryz.func87, Tryz.ntmps87
  go_wp2
  go_loopw [3, 4] (fun vv vp wr => ∃ (pos fuel v : Nat), vv = .int .i64 v ∧ vp = .int .i64 pos ∧ Below w.heap.size w wr ∧ valGo s fuel pos v = refVal s ∧ s.size ≤ pos + fuel ∧ pos ≤ s.size ∧ v ≤ 100000) (fun _ vp _ => s.size - (RowKit.intOf vp).toNat)
  case atStart => exact ⟨0, s.size, 0, rfl, rfl, Below.refl _ _, rfl, by omega, by omega, by omega⟩
  case round =>
    obtain ⟨pos, fuel, v, rfl, rfl, hbw, hgo, hfu, hpos, hv⟩ := hrel
    by_cases hp : pos < s.size
    · obtain ⟨f, rfl⟩ : ∃ f, fuel = f + 1 := ⟨fuel - 1, by omega⟩
      have hbv := byteAt_val s pos hp
      have hdg := (digB_iff _).1 (HDg.out pos hp)
      have hm := valGo_more s f pos v hp
      have ha := addDigit_le v (byteAt s pos)
      have HA : Hid (addDigit v (byteAt s pos) = min (10 * v + (byteAt s pos - 48)) 100000) := rfl
      rw [hgo] at hm
      generalize addDigit v (byteAt s pos) = q at *
      generalize byteAt s pos = b at *
      have h48 : (48 : Int) ≤ ((s[pos]'hp).toNat : Int) := by rw [hbv]; exact hdg.1
      have h57 : ((s[pos]'hp).toNat : Int) ≤ 57 := by rw [hbv]; exact hdg.2
      have HM := Lib.hid hm
      have HB := Lib.hid hbv
      clear hm hgo hbv
      go_wp2
      go_roundw
      case rel => exact ⟨pos + 1, f, q, (by rw [HA.out, HB.out]; exact congrArg (Value.int .i64) (by omega)), by go_num, hbw, HM.out.symm, by omega, by omega, by omega⟩
      case measure => simp [RowKit.intOf]; omega
    · have HR : Hid (v = refVal s) := by rw [← hgo, valGo_end _ _ _ _ hp]; exact rfl
      clear hgo
      go_wp2
      go_ret
      exact ⟨ret_bool (by rw [← HR.out]; exact decide_eq_decide.2 (by omega)), hbw⟩

set_option maxHeartbeats 1000000 in
theorem rremark_any (s : ByteArray) (w : World) (hs : s.size ≤ maxLen) (hT : Tabs w) :
    Calls Tryz.prog 83 #[.string s] w fun e w' => e = .returned (.tuple #[.int .i64 (remOf s).1, .int .i64 (remOf s).2]) ∧ Below w.heap.size w w' := by
  unfold maxLen at hs
  go_enter Tryz.func83, Tryz.ntmps83
  go_wp2
  go_loopw [4] (fun vp wr => ∃ (pos fuel : Nat), vp = .int .i64 pos ∧ Below w.heap.size w wr ∧ remGo s fuel pos = remOf s ∧ s.size ≤ pos + fuel ∧ pos ≤ s.size) (fun vp _ => s.size - (RowKit.intOf vp).toNat)
  case atStart => exact ⟨0, s.size, rfl, Below.refl _ _, rfl, by omega, by omega⟩
  case round =>
    obtain ⟨pos, fuel, rfl, hbw, hgo, hfu, hpos⟩ := hrel
    by_cases hp : pos < s.size
    · obtain ⟨f, rfl⟩ : ∃ f, fuel = f + 1 := ⟨fuel - 1, by omega⟩
      have hbv := byteAt_val s pos hp
      have hwd := width_pos s pos hp
      have hwf := decode_fits s pos hp
      have hd1 := decode_le s pos
      have hdec := decode_at_any s pos hp wr (hT.below hbw)
      have he := remGo_end s (f + 1) pos
      have hb := remGo_bad s f pos
      have hm := remGo_more s f pos
      rw [hgo] at he hb hm
      have HB := Lib.hid hbv
      have HD := Lib.hid hdec
      have HE := Lib.hid he
      have HBad := Lib.hid hb
      have HM := Lib.hid hm
      clear hgo hbv hdec he hb hm
      generalize byteAt s pos = b at *
      generalize (Utf8.decode s pos).1 = r at *
      generalize (Utf8.decode s pos).2 = n at *
      by_cases h10 : b = 10
      · have q : (((s[pos]'hp).toNat : Int) != 10) = false := by rw [HB.out]; simp; omega
        have HR := Lib.hid (HE.out (fun h => h.2 h10))
        clear h10
        go_wp2
        go_ret2
        exact ⟨by rw [HR.out]; rfl, hbw⟩
      · have q : (((s[pos]'hp).toNat : Int) != 10) = true := by rw [HB.out]; simp; omega
        by_cases h65 : r = 65533
        · have q1 : ((r : Int) == 65533) = true := by simp; omega
          by_cases hn : n = 1
          · have q2 : ((n : Int) == 1) = true := by simp; omega
            have HR := Lib.hid (HBad.out ⟨hp, h10⟩ ⟨h65, hn⟩)
            clear h10 h65 hn
            go_wp2_with (go_at_call 81; refine HD.out.mono ?_; rintro e w1 ⟨rfl, b1⟩)
            go_ret2
            exact ⟨by rw [HR.out]; rfl, hbw.trans (b1.mono hbw.size)⟩
          · have q2 : ((n : Int) == 1) = false := by simp; omega
            have HR := Lib.hid (HM.out ⟨hp, h10⟩ (fun h => hn h.2))
            clear h10 h65 hn
            go_wp2_with (go_at_call 81; refine HD.out.mono ?_; rintro e w1 ⟨rfl, b1⟩)
            go_roundw
            case rel => exact ⟨pos + n, f, by go_num, hbw.trans (b1.mono hbw.size), HR.out.symm, by omega, by omega⟩
            case measure => simp [RowKit.intOf]; omega
        · have q1 : ((r : Int) == 65533) = false := by simp; omega
          have HR := Lib.hid (HM.out ⟨hp, h10⟩ (fun h => h65 h.1))
          clear h10 h65
          go_wp2_with (go_at_call 81; refine HD.out.mono ?_; rintro e w1 ⟨rfl, b1⟩)
          go_roundw
          case rel => exact ⟨pos + n, f, by go_num, hbw.trans (b1.mono hbw.size), HR.out.symm, by omega, by omega⟩
          case measure => simp [RowKit.intOf]; omega
    · have HR : Hid ((pos, -1) = remOf s) := by rw [← hgo, remGo_end _ _ _ (fun h => hp h.1)]; exact rfl
      clear hgo
      go_wp2
      go_ret2
      exact ⟨by rw [← HR.out]; rfl, hbw⟩

/-- Is a rune one of the marks? -/
def markR (r : Int) : Bool := r == 123 || r == 125 || r == 40 || r == 41 || r == 58 || r == 59 || r == 43 || r == 42 || r == 60 || r == 61 || r == 45

set_option maxHeartbeats 4000000 in
theorem rmark_any (r : Int) (w : World) :
    Calls Tryz.prog 89 #[.int .i32 r] w fun e w' => e = .returned (.bool (markR r)) ∧ w = w' := by
  have k0 : ((⟨#[123, 125, 40, 41, 58, 59, 43, 42, 60, 61, 45]⟩ : ByteArray)[0]'(by decide)).toNat = 123 := rfl
  have k1 : ((⟨#[123, 125, 40, 41, 58, 59, 43, 42, 60, 61, 45]⟩ : ByteArray)[1]'(by decide)).toNat = 125 := rfl
  have k2 : ((⟨#[123, 125, 40, 41, 58, 59, 43, 42, 60, 61, 45]⟩ : ByteArray)[2]'(by decide)).toNat = 40 := rfl
  have k3 : ((⟨#[123, 125, 40, 41, 58, 59, 43, 42, 60, 61, 45]⟩ : ByteArray)[3]'(by decide)).toNat = 41 := rfl
  have k4 : ((⟨#[123, 125, 40, 41, 58, 59, 43, 42, 60, 61, 45]⟩ : ByteArray)[4]'(by decide)).toNat = 58 := rfl
  have k5 : ((⟨#[123, 125, 40, 41, 58, 59, 43, 42, 60, 61, 45]⟩ : ByteArray)[5]'(by decide)).toNat = 59 := rfl
  have k6 : ((⟨#[123, 125, 40, 41, 58, 59, 43, 42, 60, 61, 45]⟩ : ByteArray)[6]'(by decide)).toNat = 43 := rfl
  have k7 : ((⟨#[123, 125, 40, 41, 58, 59, 43, 42, 60, 61, 45]⟩ : ByteArray)[7]'(by decide)).toNat = 42 := rfl
  have k8 : ((⟨#[123, 125, 40, 41, 58, 59, 43, 42, 60, 61, 45]⟩ : ByteArray)[8]'(by decide)).toNat = 60 := rfl
  have k9 : ((⟨#[123, 125, 40, 41, 58, 59, 43, 42, 60, 61, 45]⟩ : ByteArray)[9]'(by decide)).toNat = 61 := rfl
  have k10 : ((⟨#[123, 125, 40, 41, 58, 59, 43, 42, 60, 61, 45]⟩ : ByteArray)[10]'(by decide)).toNat = 45 := rfl
  by_cases h0 : r = 123
  · subst h0
    have HR : Hid (markR 123 = true) := rfl
    go_enter Tryz.func89, Tryz.ntmps89
    go_wp2
    refine wp_loop_rounds 1 ?_
    rw [rounds_succ]
    go_wp2
    go_ret
    exact ⟨ret_bool (by rw [HR.out]), rfl⟩
  by_cases h1 : r = 125
  · subst h1
    have HR : Hid (markR 125 = true) := rfl
    go_enter Tryz.func89, Tryz.ntmps89
    go_wp2
    refine wp_loop_rounds 2 ?_
    rw [rounds_succ]
    go_wp2
    rw [rounds_succ]
    go_wp2
    go_ret
    exact ⟨ret_bool (by rw [HR.out]), rfl⟩
  by_cases h2 : r = 40
  · subst h2
    have HR : Hid (markR 40 = true) := rfl
    go_enter Tryz.func89, Tryz.ntmps89
    go_wp2
    refine wp_loop_rounds 3 ?_
    rw [rounds_succ]
    go_wp2
    rw [rounds_succ]
    go_wp2
    rw [rounds_succ]
    go_wp2
    go_ret
    exact ⟨ret_bool (by rw [HR.out]), rfl⟩
  by_cases h3 : r = 41
  · subst h3
    have HR : Hid (markR 41 = true) := rfl
    go_enter Tryz.func89, Tryz.ntmps89
    go_wp2
    refine wp_loop_rounds 4 ?_
    rw [rounds_succ]
    go_wp2
    rw [rounds_succ]
    go_wp2
    rw [rounds_succ]
    go_wp2
    rw [rounds_succ]
    go_wp2
    go_ret
    exact ⟨ret_bool (by rw [HR.out]), rfl⟩
  by_cases h4 : r = 58
  · subst h4
    have HR : Hid (markR 58 = true) := rfl
    go_enter Tryz.func89, Tryz.ntmps89
    go_wp2
    refine wp_loop_rounds 5 ?_
    rw [rounds_succ]
    go_wp2
    rw [rounds_succ]
    go_wp2
    rw [rounds_succ]
    go_wp2
    rw [rounds_succ]
    go_wp2
    rw [rounds_succ]
    go_wp2
    go_ret
    exact ⟨ret_bool (by rw [HR.out]), rfl⟩
  by_cases h5 : r = 59
  · subst h5
    have HR : Hid (markR 59 = true) := rfl
    go_enter Tryz.func89, Tryz.ntmps89
    go_wp2
    refine wp_loop_rounds 6 ?_
    rw [rounds_succ]
    go_wp2
    rw [rounds_succ]
    go_wp2
    rw [rounds_succ]
    go_wp2
    rw [rounds_succ]
    go_wp2
    rw [rounds_succ]
    go_wp2
    rw [rounds_succ]
    go_wp2
    go_ret
    exact ⟨ret_bool (by rw [HR.out]), rfl⟩
  by_cases h6 : r = 43
  · subst h6
    have HR : Hid (markR 43 = true) := rfl
    go_enter Tryz.func89, Tryz.ntmps89
    go_wp2
    refine wp_loop_rounds 7 ?_
    rw [rounds_succ]
    go_wp2
    rw [rounds_succ]
    go_wp2
    rw [rounds_succ]
    go_wp2
    rw [rounds_succ]
    go_wp2
    rw [rounds_succ]
    go_wp2
    rw [rounds_succ]
    go_wp2
    rw [rounds_succ]
    go_wp2
    go_ret
    exact ⟨ret_bool (by rw [HR.out]), rfl⟩
  by_cases h7 : r = 42
  · subst h7
    have HR : Hid (markR 42 = true) := rfl
    go_enter Tryz.func89, Tryz.ntmps89
    go_wp2
    refine wp_loop_rounds 8 ?_
    rw [rounds_succ]
    go_wp2
    rw [rounds_succ]
    go_wp2
    rw [rounds_succ]
    go_wp2
    rw [rounds_succ]
    go_wp2
    rw [rounds_succ]
    go_wp2
    rw [rounds_succ]
    go_wp2
    rw [rounds_succ]
    go_wp2
    rw [rounds_succ]
    go_wp2
    go_ret
    exact ⟨ret_bool (by rw [HR.out]), rfl⟩
  by_cases h8 : r = 60
  · subst h8
    have HR : Hid (markR 60 = true) := rfl
    go_enter Tryz.func89, Tryz.ntmps89
    go_wp2
    refine wp_loop_rounds 9 ?_
    rw [rounds_succ]
    go_wp2
    rw [rounds_succ]
    go_wp2
    rw [rounds_succ]
    go_wp2
    rw [rounds_succ]
    go_wp2
    rw [rounds_succ]
    go_wp2
    rw [rounds_succ]
    go_wp2
    rw [rounds_succ]
    go_wp2
    rw [rounds_succ]
    go_wp2
    rw [rounds_succ]
    go_wp2
    go_ret
    exact ⟨ret_bool (by rw [HR.out]), rfl⟩
  by_cases h9 : r = 61
  · subst h9
    have HR : Hid (markR 61 = true) := rfl
    go_enter Tryz.func89, Tryz.ntmps89
    go_wp2
    refine wp_loop_rounds 10 ?_
    rw [rounds_succ]
    go_wp2
    rw [rounds_succ]
    go_wp2
    rw [rounds_succ]
    go_wp2
    rw [rounds_succ]
    go_wp2
    rw [rounds_succ]
    go_wp2
    rw [rounds_succ]
    go_wp2
    rw [rounds_succ]
    go_wp2
    rw [rounds_succ]
    go_wp2
    rw [rounds_succ]
    go_wp2
    rw [rounds_succ]
    go_wp2
    go_ret
    exact ⟨ret_bool (by rw [HR.out]), rfl⟩
  by_cases h10 : r = 45
  · subst h10
    have HR : Hid (markR 45 = true) := rfl
    go_enter Tryz.func89, Tryz.ntmps89
    go_wp2
    refine wp_loop_rounds 11 ?_
    rw [rounds_succ]
    go_wp2
    rw [rounds_succ]
    go_wp2
    rw [rounds_succ]
    go_wp2
    rw [rounds_succ]
    go_wp2
    rw [rounds_succ]
    go_wp2
    rw [rounds_succ]
    go_wp2
    rw [rounds_succ]
    go_wp2
    rw [rounds_succ]
    go_wp2
    rw [rounds_succ]
    go_wp2
    rw [rounds_succ]
    go_wp2
    rw [rounds_succ]
    go_wp2
    go_ret
    exact ⟨ret_bool (by rw [HR.out]), rfl⟩
  have HR : Hid (markR r = false) := by simp [markR, Hid, h0, h1, h2, h3, h4, h5, h6, h7, h8, h9, h10]
  have q0 : (((123 : Int)) == r) = false := by simp; omega
  have q1 : (((125 : Int)) == r) = false := by simp; omega
  have q2 : (((40 : Int)) == r) = false := by simp; omega
  have q3 : (((41 : Int)) == r) = false := by simp; omega
  have q4 : (((58 : Int)) == r) = false := by simp; omega
  have q5 : (((59 : Int)) == r) = false := by simp; omega
  have q6 : (((43 : Int)) == r) = false := by simp; omega
  have q7 : (((42 : Int)) == r) = false := by simp; omega
  have q8 : (((60 : Int)) == r) = false := by simp; omega
  have q9 : (((61 : Int)) == r) = false := by simp; omega
  have q10 : (((45 : Int)) == r) = false := by simp; omega
  clear h0 h1 h2 h3 h4 h5 h6 h7 h8 h9 h10
  go_enter Tryz.func89, Tryz.ntmps89
  go_wp2
  refine wp_loop_rounds 12 ?_
  rw [rounds_succ]
  go_wp2
  rw [rounds_succ]
  go_wp2
  rw [rounds_succ]
  go_wp2
  rw [rounds_succ]
  go_wp2
  rw [rounds_succ]
  go_wp2
  rw [rounds_succ]
  go_wp2
  rw [rounds_succ]
  go_wp2
  rw [rounds_succ]
  go_wp2
  rw [rounds_succ]
  go_wp2
  rw [rounds_succ]
  go_wp2
  rw [rounds_succ]
  go_wp2
  rw [rounds_succ]
  go_wp2
  go_ret
  exact ⟨ret_bool (by rw [HR.out]), rfl⟩
end Go.Proofs.YtaffgdgdojdoiaaGreatDoor
