/- joustlaw01.ScanAgain: it answers true, for every text and parts. -/
import Derived.Test.YtdpahcnenjnbhaaDoorTellsWalk
import Derived.Test.YtdpahcnenjnbhaaDoorAgainMathC
namespace Go.Proofs.YtdpahcnenjnbhaaDoor
open Go.RowKit Go.Lib

/-- What the parts come to, place by place: the bytes that came in, then 0. -/
def partAt (zs : List Int) (i : Nat) : Nat := ((zs.getD i 0).toNat) % 5

theorem scan_fault (s : ByteArray) (h : (scanOf s).2.1 ≠ 0) : (scanOf s).1 = [] := by
  rw [scanOf_refOf] at h ⊢
  unfold refOf at h ⊢
  split
  · rfl
  · rename_i hs
    rw [if_neg hs] at h
    have hm := kt_ref s s.size 0 [] (by omega)
    rw [show s.extract 0 s.size = s from ByteArray.extract_zero_size] at hm
    cases hk : ktGo s.size s with
    | none => rw [hk] at hm; exact hm.2
    | some l => rw [hk] at hm; exact absurd hm.1 h

theorem scan_ne (s : ByteArray) (hs : s.size ≤ 3000) (h : (scanOf s).2.1 = 0) : (scanOf s).1 ≠ [] := by
  rw [scanOf_refOf] at h ⊢
  unfold refOf at h ⊢
  rw [if_neg (by omega)] at h ⊢
  have hm := kt_ref s s.size 0 [] (by omega)
  rw [show s.extract 0 s.size = s from ByteArray.extract_zero_size] at hm
  cases hk : ktGo s.size s with
  | none => rw [hk] at hm; exact absurd h hm.1
  | some l =>
    rw [hk] at hm
    obtain ⟨l', e, _⟩ := kt_ok _ _ _ hk
    intro h0
    have := hm.2
    rw [h0, e] at this
    simp at this

theorem joinL_snoc (ks : Nat → Nat) : ∀ (l : List KT) (i : Nat) (t : KT), joinL (l ++ [t]) ks i = joinL l ks i ++ (t.2 ++ sepB (ks (i + l.length)))
  | [], i, t => by
    show t.2 ++ (sepB (ks i) ++ ⟨#[]⟩) = ⟨#[]⟩ ++ (t.2 ++ sepB (ks (i + 0)))
    rw [Nat.add_zero, show (⟨#[]⟩ : ByteArray) = ByteArray.empty from rfl, ByteArray.append_empty, ByteArray.empty_append]
  | x :: l, i, t => by
    show x.2 ++ (sepB (ks i) ++ joinL (l ++ [t]) ks (i + 1)) = (x.2 ++ (sepB (ks i) ++ joinL l ks (i + 1))) ++ (t.2 ++ sepB (ks (i + (l.length + 1))))
    rw [joinL_snoc ks l (i + 1) t, app_assoc, app_assoc, show i + 1 + l.length = i + (l.length + 1) from by omega]
theorem joinL_app (ks : Nat → Nat) : ∀ (l m : List KT) (i : Nat), joinL (l ++ m) ks i = joinL l ks i ++ joinL m ks (i + l.length)
  | [], m, i => by
    show joinL m ks i = ⟨#[]⟩ ++ joinL m ks (i + 0)
    rw [Nat.add_zero, show (⟨#[]⟩ : ByteArray) = ByteArray.empty from rfl, ByteArray.empty_append]
  | x :: l, m, i => by
    show x.2 ++ (sepB (ks i) ++ joinL (l ++ m) ks (i + 1)) = (x.2 ++ (sepB (ks i) ++ joinL l ks (i + 1))) ++ joinL m ks (i + (l.length + 1))
    rw [joinL_app ks l m (i + 1), app_assoc, app_assoc, show i + 1 + l.length = i + (l.length + 1) from by omega]
theorem join_take_le (ks : Nat → Nat) (l : List KT) (i : Nat) : (joinL (l.take i) ks 0).size ≤ (joinL l ks 0).size := by
  conv => rhs; rw [← List.take_append_drop i l, joinL_app, size_app]
  omega

theorem take_snoc' {α : Type} (l : List α) (i : Nat) (t : α) (h : l[i]? = some t) : l.take (i + 1) = l.take i ++ [t] := by
  rw [List.take_add_one, h]
  rfl

set_option maxHeartbeats 8000000 in
set_option maxRecDepth 100000 in
theorem again_any (s : ByteArray) (A : Option Addr) (pn pc : Nat) (zs : List Int) (w : World) (hs : s.size ≤ maxLen) (hpn : pn ≤ maxLen) (hT : Tabs w)
    (hA : ∀ i, i < pn → ∃ b off, A = some ⟨b, off, none⟩ ∧ w.cell? ⟨b, off + i, none⟩ = some (.int .u8 (zs.getD i 0)) ∧ 0 ≤ zs.getD i 0 ∧ zs.getD i 0 ≤ 255) (hz : ∀ i, pn ≤ i → zs.getD i 0 = 0) :
    Calls Tryd.prog 4 #[.string s, .slice A pn pc] w fun e w' => e = .returned (.bool true) ∧ Below w.heap.size w w' := by
  have hL := fun W hW => lives_any W hW
  have h1 := fun W hW => tok_at s W hs hW
  have hnil := scan_fault s
  have hne := scan_ne s
  have hag : s.size ≤ 3000 → (scanOf s).2.1 = 0 → _ := fun h h2 => again s h h2 (partAt zs)
  generalize hr : scanOf s = r at *
  obtain ⟨ts, er, l, c⟩ := r
  simp only [] at h1 hnil hag hne
  have HL := Lib.hid hL
  have H1 := Lib.hid h1
  have HAG := Lib.hid hag
  have HNIL := Lib.hid hnil
  have HNE := Lib.hid hne
  clear hL h1 hag hnil hne hr
  unfold maxLen at hs hpn
  go_enter Tryd.func4, Tryd.ntmps4
  go_wp2_with fail
  refine (H1.out _ hT).mono ?_
  rintro e w1 ⟨v1, rfl, a1, b1⟩
  have T1 := (hT.below b1).alloc (.cells #[.int .i64 er, .int .i64 l, .int .i64 c] 28)
  have B1 := later_alloc b1 (.cells #[.int .i64 er, .int .i64 l, .int .i64 c] 28)
  have A1 := a1.later (later_alloc (Below.refl _ _) (.cells #[.int .i64 er, .int .i64 l, .int .i64 c] 28))
  by_cases c1 : 3000 < s.size
  · go_wp2_with fail
    refine (HL.out _ T1).mono ?_
    rintro e w2 ⟨rfl, b2⟩
    go_wp2
    go_ret
    exact ⟨rfl, later_trans B1 b2⟩
  · by_cases c2 : er = 0
    · subst c2
      obtain ⟨j1, j2, j3⟩ := HAG.out (by omega) rfl
      have hne := HNE.out (by omega) rfl
      rcases A1.open with ⟨_, h0⟩ | ⟨g, cp, rfl, hcp, hcm, hcells⟩
      · exact absurd h0 hne
      generalize hn : ts.length = n at *
      have HN := Lib.hid hn
      have HC := Lib.hid hcells
      have HA := Lib.hid hA
      have HZ := Lib.hid hz
      have J1 := Lib.hid j1
      have J2 := Lib.hid j2
      have J3 := Lib.hid j3
      have HA1 := Lib.hid A1
      unfold maxLen at hcm
      clear hn hcells hA hz j1 j2 j3 A1 hne
      go_wp2
      go_loopw [7, 38] (fun v7 vi wr => ∃ i : Nat, i ≤ n ∧ vi = .int .i64 i ∧ v7 = .string (joinL ((ts.map Tok.kt).take i) (partAt zs) 0) ∧ Below (w1.alloc (.cells #[.int .i64 0, .int .i64 l, .int .i64 c] 28)).heap.size (w1.alloc (.cells #[.int .i64 0, .int .i64 l, .int .i64 c] 28)) wr) (fun _ vi _ => n - (RowKit.intOf vi).toNat)
      case atStart => exact ⟨0, Nat.zero_le _, rfl, rfl, Below.refl _ _⟩
      case round =>
        obtain ⟨i, hi, rfl, rfl, hbw⟩ := hrel
        by_cases hlt : i < n
        · obtain ⟨t, ht⟩ : ∃ t, ts[i]? = some t := ⟨ts[i]'(by have := HN.out; omega), List.getElem?_eq_getElem _⟩
          obtain ⟨_, x1, _, _⟩ := HC.out i t ht
          have x1' := cell_later hbw x1
          have hstep : joinL ((ts.map Tok.kt).take (i + 1)) (partAt zs) 0 = joinL ((ts.map Tok.kt).take i) (partAt zs) 0 ++ (t.text ++ sepB (partAt zs i)) := by
            rw [take_snoc' (ts.map Tok.kt) i t.kt (by simp [ht]), joinL_snoc, Nat.zero_add, List.length_take, Nat.min_eq_left (by have := HN.out; simp; omega)]
            rfl
          have hle := join_take_le (partAt zs) (ts.map Tok.kt) (i + 1)
          have hle2 := J1.out
          rw [hstep, size_app, size_app] at hle
          have hsp := (sep_size (partAt zs i)).1
          generalize joinL ((ts.map Tok.kt).take i) (partAt zs) 0 = acc at *
          have HS := Lib.hid hstep
          have x1'' : (wr.alloc (.cells #[.string ⟨#[32]⟩, .string ⟨#[10]⟩, .string ⟨#[9, 32]⟩, .string ⟨#[13, 10]⟩, .string ⟨#[35, 32, 123, 32, 195, 169, 32, 48, 48, 55, 10]⟩] 9)).cell? ⟨g, i * 4 + 1, none⟩ = some (.string t.text) := cell_later (later_alloc (Below.refl _ _) _) x1'
          have hsum : acc.size + t.text.size ≤ 65536 := by omega
          clear hstep x1 hsp hle hle2
          by_cases hip : i < pn
          · obtain ⟨b, off, rfl, hcell, hlo, hhi⟩ := HA.out i hip
            have hcell' := cell_later hbw (cell_later B1 hcell)
            have hpa : Hid (partAt zs i = (zs.getD i 0).toNat % 5) := rfl
            have hpi : (i : Int) < (pn : Int) := by omega
            clear hcell HZ HA
            generalize zs.getD i 0 = k at *
            have hcases : k % 5 = 0 ∨ k % 5 = 1 ∨ k % 5 = 2 ∨ k % 5 = 3 ∨ k % 5 = 4 := by omega
            rcases hcases with hk | hk | hk | hk | hk
            · have hk0 : Hid (partAt zs i = 0) := by unfold Hid; rw [hpa.out]; omega
              go_wp2_with fail
              go_region
              go_wp2
              go_roundw
              case rel => exact ⟨i + 1, by omega, by go_num, by rw [HS.out, hk0.out, app_assoc]; rfl, (hbw.alloc hbw.size _).drew⟩
              case measure => simp [RowKit.intOf]; omega
            · have hk1 : Hid (partAt zs i = 1) := by unfold Hid; rw [hpa.out]; omega
              go_wp2_with fail
              go_region
              go_wp2
              go_roundw
              case rel => exact ⟨i + 1, by omega, by go_num, by rw [HS.out, hk1.out, app_assoc]; rfl, (hbw.alloc hbw.size _).drew⟩
              case measure => simp [RowKit.intOf]; omega
            · have hk2 : Hid (partAt zs i = 2) := by unfold Hid; rw [hpa.out]; omega
              go_wp2_with fail
              go_region
              go_wp2
              go_roundw
              case rel => exact ⟨i + 1, by omega, by go_num, by rw [HS.out, hk2.out, app_assoc]; rfl, (hbw.alloc hbw.size _).drew⟩
              case measure => simp [RowKit.intOf]; omega
            · have hk3 : Hid (partAt zs i = 3) := by unfold Hid; rw [hpa.out]; omega
              go_wp2_with fail
              go_region
              go_wp2
              go_roundw
              case rel => exact ⟨i + 1, by omega, by go_num, by rw [HS.out, hk3.out, app_assoc]; rfl, (hbw.alloc hbw.size _).drew⟩
              case measure => simp [RowKit.intOf]; omega
            · have hk4 : Hid (partAt zs i = 4) := by unfold Hid; rw [hpa.out]; omega
              go_wp2_with fail
              go_region
              go_wp2
              go_roundw
              case rel => exact ⟨i + 1, by omega, by go_num, by rw [HS.out, hk4.out, app_assoc]; rfl, (hbw.alloc hbw.size _).drew⟩
              case measure => simp [RowKit.intOf]; omega
          · have hk0 : Hid (partAt zs i = 0) := by unfold Hid partAt; rw [HZ.out i (by omega)]; rfl
            go_wp2_with fail
            go_region
            go_wp2
            go_roundw
            case rel => exact ⟨i + 1, by omega, by go_num, by rw [HS.out, hk0.out, app_assoc]; rfl, (hbw.alloc hbw.size _).drew⟩
            case measure => simp [RowKit.intOf]; omega
        · obtain rfl : i = n := by omega
          have hall : (ts.map Tok.kt).take i = ts.map Tok.kt := List.take_of_length_le (by have := HN.out; simp; omega)
          rw [hall]
          have hJ := fun W hW => tok_at (joinL (ts.map Tok.kt) (partAt zs) 0) W (by have := J1.out; unfold maxLen; omega) hW
          have e2 := J2.out
          have e3 := J3.out
          generalize joinL (ts.map Tok.kt) (partAt zs) 0 = J at *
          generalize scanOf J = r2 at *
          obtain ⟨ts2, er2, l2, c2'⟩ := r2
          simp only [] at hJ e2 e3
          subst e2
          have hlen : ts.length = ts2.length := by have := congrArg List.length e3; simpa using this.symm
          have hsame : ∀ (k : Nat) t u, ts[k]? = some t → ts2[k]? = some u → t.kind = u.kind ∧ t.text = u.text := fun k t u ht hu => by
            have h1 := congrArg (·[k]?) e3
            simp only [List.getElem?_map, ht, hu, Option.map_some, Option.some.injEq, Tok.kt, Prod.mk.injEq] at h1
            exact ⟨h1.1.symm, h1.2.symm⟩
          have HJ := Lib.hid hJ
          have HSame := Lib.hid hsame
          have HLen := Lib.hid hlen
          have T2 := T1.below hbw
          clear hJ e3 hsame hlen hall
          go_wp2_with fail
          refine (HJ.out _ T2).mono ?_
          rintro e w3 ⟨v3, rfl, a3, b3⟩
          have T3 := (T2.below b3).alloc (.cells #[.int .i64 0, .int .i64 l2, .int .i64 c2'] 28)
          have B3 := later_alloc b3 (.cells #[.int .i64 0, .int .i64 l2, .int .i64 c2'] 28)
          have A3 := a3.later (later_alloc (Below.refl _ _) (.cells #[.int .i64 0, .int .i64 l2, .int .i64 c2'] 28))
          have K3 := later_trans (later_trans B1 hbw) B3
          have A1' := (HA1.out.later hbw).later B3
          go_wp2_with fail
          refine (toks_yes _ _ _ _ _ A1' A3 HLen.out HSame.out).mono ?_
          rintro e w4 ⟨rfl, b4⟩
          go_wp2_with fail
          refine (HL.out _ (T3.below b4)).mono ?_
          rintro e w5 ⟨rfl, b5⟩
          go_wp2
          go_ret
          exact ⟨rfl, later_trans (later_trans K3 b4) b5⟩
    · have hts := HNIL.out c2
      subst hts
      have q : ((er : Int) != 0) = true := by simp; omega
      rcases A1.open with ⟨rfl, _⟩ | ⟨g, cp, rfl, hcp, hcm, _⟩
      · clear c2
        go_wp2_with fail
        refine (HL.out _ T1).mono ?_
        rintro e w2 ⟨rfl, b2⟩
        go_wp2
        go_ret
        exact ⟨rfl, later_trans B1 b2⟩
      · clear c2
        simp only [List.length_nil] at hcp ⊢
        go_wp2_with fail
        refine (HL.out _ T1).mono ?_
        rintro e w2 ⟨rfl, b2⟩
        go_wp2
        go_ret
        exact ⟨rfl, later_trans B1 b2⟩
end Go.Proofs.YtdpahcnenjnbhaaDoor
