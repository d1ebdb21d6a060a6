/- joustlaw01.ScanSpots: it answers true, for every text. -/
import Derived.Test.YtdpahcnenjnbhaaDoorTellsWalk
import Derived.Test.YtdpahcnenjnbhaaDoorSpotsMath
import Derived.Deep.CutBlock
import Derived.BigQuiet
import Derived.Deep.DeepCutAuto
namespace Go.Proofs.YtdpahcnenjnbhaaDoor
open Go.RowKit Go.Lib

theorem where_of (s : ByteArray) (a : Nat) (h : s.size ≤ 600) (W : World) : Calls Tryd.prog 13 #[.string s, .int .i64 a] W fun e w' => e = .returned (.agg #[.int .i64 (whereOf s a).1, .int .i64 (whereOf s a).2]) ∧ Below W.heap.size W w' := where_any s a W (by omega)

/-- What the law finds from one token's end on: the next token's place, and what lies ahead of it. -/
theorem Chain.open {s : ByteArray} {a : Nat} {t : Tok} {rest : List Tok} (h : Chain s a (t :: rest)) :
    ∃ m p rm, GapN s m a false p rm ∧ p ≤ s.size ∧ (rm = true → p = s.size) ∧ (∀ b : Nat, b < p → lexLt (whereOf s b) t.spot) ∧ whereOf s p = t.spot ∧
      ((rest = [] ∧ t.kind = 0 ∧ t.text = ⟨#[]⟩ ∧ p = s.size) ∨
       (p < s.size ∧ t.kind ≠ 0 ∧ t.kind ≤ 3 ∧ 0 < t.text.size ∧ wordB t.text = (t.kind == 1) ∧ p + t.text.size ≤ s.size ∧ t.text = s.extract p (p + t.text.size) ∧ Chain s (p + t.text.size) rest)) := by
  rcases h with ⟨h1, h2, n, rm, k, hg, hr⟩ | ⟨h1, h2, h3, h4, n, p, k, hg, hr, hp, hsp, hle, hx, hc⟩
  · refine ⟨n, s.size, rm, hg, Nat.le_refl _, fun _ => rfl, fun b hb => ?_, by rw [h2]; rfl, .inl ⟨h1, by rw [h2]; rfl, by rw [h2]; rfl, rfl⟩⟩
    rw [h2]
    exact where_lt s b s.size hb k 0 (1, 1) hr (SpotAt.start s) (Nat.zero_le _)
  · refine ⟨n, p, false, hg, Nat.le_of_lt hp, (fun h => by cases h), fun b hb => ?_, hsp.symm, .inr ⟨hp, h1, h2, h3, h4, hle, hx, hc⟩⟩
    rw [hsp]
    exact where_lt s b p hb k 0 (1, 1) hr (SpotAt.start s) (Nat.zero_le _)

section
variable {P : Program} {l : List Oper} {Q : Exit → Act → World → Prop} {md : Region.Mode} {S : World → Prop}
theorem take_at {i : Nat} {oi : Oper} {v : Value} {fuel : Nat} {listed : Array Bool} {a : Act} {w : World} (hi : l[i]? = some oi)
    (hs : Region.noSelect l.toArray = true) (hf : Region.free md l.toArray listed i = true) (hr : (Region.ready md l.toArray listed).contains i = true)
    (hQ : ∀ c a w, Q (.panic c) (a.put oi.dst v) w → Q (.panic c) a w) (hy : YieldsIf P l.toArray S oi v a) (hS : S w)
    (h : wpAnyH P md l.toArray Q S fuel (listed.setIfInBounds i true) (a.put oi.dst v) w) : wpAnyH P md l.toArray Q S (fuel + 1) listed a w :=
  wpAnyH_take (by rw [List.getElem?_toArray]; exact hi) hs hf hr hQ hy hS h
theorem cons_at {fuel : Nat} {listed : Array Bool} {a : Act} {w : World} {i : Nat} {o : Oper} {rs : List Nat} (ho : l[i]? = some o)
    (h : ∀ K' : Act → World → Prop, Shut (∀ a w, S w → (S w → wpAnyH P md l.toArray Q S fuel (listed.setIfInBounds i true) a w) → K' a w) → if Region.wanted o (yielded l.toArray a.tmps) = true then Oper.wp P o a w K' Q else K' (a.put o.dst undef) w)
    (hs : AllReadyH P md l.toArray Q S fuel listed a w rs) : AllReadyH P md l.toArray Q S fuel listed a w (i :: rs) :=
  AllReadyH.cons (by rw [List.getElem?_toArray]; exact ho) h hs
end

theorem Chain.suffix {s : ByteArray} {a : Nat} {l : List Tok} (h : Chain s a l) : l ≠ [] := by
  intro e
  subst e
  exact h

set_option maxHeartbeats 8000000 in
set_option maxRecDepth 100000 in
theorem spotsLaw_any (s : ByteArray) (w : World) (hs : s.size ≤ maxLen) (hT : Tabs w) :
    Calls Tryd.prog 5 #[.string s] w fun e w' => e = .returned (.bool true) ∧ Below w.heap.size w w' := by
  have hL := fun W hW => lives_any W hW
  have h1 := fun W hW => tok_at s W hs hW
  have hch : s.size ≤ 600 → (scanOf s).2.1 = 0 → Chain s 0 (scanOf s).1 := fun h h2 => scan_chain s (by omega) h2
  generalize hr : scanOf s = r at *
  obtain ⟨ts, er, l, c⟩ := r
  simp only [] at h1 hch
  have HL := Lib.hid hL
  have H1 := Lib.hid h1
  have HCH := Lib.hid hch
  clear hL h1 hch hr
  unfold maxLen at hs
  go_enter Tryd.func5, Tryd.ntmps5
  go_wp2_with fail
  refine (H1.out _ hT).mono ?_
  rintro e w1 ⟨v1, rfl, a1, b1⟩
  have T1 := (hT.below b1).alloc (.cells #[.int .i64 er, .int .i64 l, .int .i64 c] 28)
  have B1 := later_alloc b1 (.cells #[.int .i64 er, .int .i64 l, .int .i64 c] 28)
  have A1 := a1.later (later_alloc (Below.refl _ _) (.cells #[.int .i64 er, .int .i64 l, .int .i64 c] 28))
  by_cases c1 : 600 < s.size
  · go_wp2_with fail
    refine (HL.out _ T1).mono ?_
    rintro e w2 ⟨rfl, b2⟩
    go_wp2
    go_ret
    exact ⟨rfl, later_trans B1 b2⟩
  · by_cases c2 : er = 0
    · have hC := HCH.out (by omega) c2
      subst c2
      rcases A1.open with ⟨_, h0⟩ | ⟨g, cp, rfl, hcp, hcm, hcells⟩
      · exact absurd h0 hC.suffix
      generalize hn : ts.length = n at *
      have HN := Lib.hid hn
      have HC := Lib.hid hcells
      have HCh := Lib.hid hC
      unfold maxLen at hcm
      clear hn hcells hC A1 a1
      have hsz : s.size ≤ 600 := by omega
      have hd600 : decide ((600 : Int) < (s.size : Int)) = false := by simp; omega
      have hBase := Lib.hid B1
      have hT1 := Lib.hid T1
      clear c1 B1 T1 hs
      go_wp2
      go_loopw [5, 6, 25] (fun v5 v6 vi wr => ∃ i a : Nat, i ≤ n ∧ vi = .int .i64 i ∧ v5 = .int .i64 a ∧ v6 = .bool false ∧ a ≤ s.size ∧ Chain s a (ts.drop i) ∧
        Below (w1.alloc (.cells #[.int .i64 0, .int .i64 l, .int .i64 c] 28)).heap.size (w1.alloc (.cells #[.int .i64 0, .int .i64 l, .int .i64 c] 28)) wr) (fun _ _ vi _ => n - (RowKit.intOf vi).toNat)
      case atStart => exact ⟨0, 0, Nat.zero_le _, rfl, rfl, rfl, Nat.zero_le _, HCh.out, Below.refl _ _⟩
      case round =>
        obtain ⟨i, a, hi, rfl, rfl, rfl, ha, hC, hbw⟩ := hrel
        by_cases hlt : i < n
        · obtain ⟨t, ht⟩ : ∃ t, ts[i]? = some t := ⟨ts[i]'(by have := HN.out; omega), List.getElem?_eq_getElem _⟩
          have hdrop : ts.drop i = t :: ts.drop (i + 1) := by
            rw [List.drop_eq_getElem_cons (by have := HN.out; omega)]
            congr 1
            rw [List.getElem?_eq_getElem (by have := HN.out; omega)] at ht
            exact Option.some.inj ht
          rw [hdrop] at hC
          obtain ⟨m, p, rmE, hgap, hps, hrmE, hless, hsame, hrest⟩ := hC.open
          obtain ⟨x0, x1, x2, x3⟩ := HC.out i t ht
          have x0' := cell_later hbw x0
          have x1' := cell_later hbw x1
          have x2' := cell_later hbw x2
          have x3' := cell_later hbw x3
          obtain ⟨kd, tx, tl, tc⟩ := t
          simp only [] at x0' x1' x2' x3' hless hsame hrest
          have HGap := Lib.hid hgap
          have HLess := Lib.hid hless
          have HSame := Lib.hid hsame
          have HRest := Lib.hid hrest
          have HrmE := Lib.hid hrmE
          clear x0 x1 x2 x3 hC hdrop ht hgap hless hsame hrest hrmE
          obtain ⟨wo, hwo⟩ : ∃ wo : World, wo = wr := ⟨_, rfl⟩
          subst hwo
          have hH := heap_alloc_new wo (.cells #[.int .u8 kd, .string tx, .int .i64 tl, .int .i64 tc] 37)
          have hbw2 := later_trans hbw (later_alloc (Below.refl _ _) (.cells #[.int .u8 kd, .string tx, .int .i64 tl, .int .i64 tc] 37))
          go_wp2
          generalize wo.alloc (.cells #[.int .u8 kd, .string tx, .int .i64 tl, .int .i64 tc] 37) = W2 at *
          have hHl := heap_lt hH
          clear hbw x0' x1' x2' x3'
          go_loopw [5, 6] (fun v5 v6 wi => ∃ (m a' : Nat) (rm : Bool), v5 = .int .i64 a' ∧ v6 = .bool rm ∧ GapN s m a' rm p rmE ∧ Below W2.heap.size W2 wi) (fun v5 _ _ => p - (RowKit.intOf v5).toNat)
          case atStart => exact ⟨m, a, false, rfl, rfl, HGap.out, Below.refl _ _⟩
          case round =>
            obtain ⟨m', a', rm, rfl, rfl, hg, hbi⟩ := hrel
            obtain ⟨wi, hwi⟩ : ∃ x : World, x = wr := ⟨_, rfl⟩
            subst hwi
            have hHi := (hbi.block _ hHl).trans hH
            have y0 := cell_blk (i := 0) hHi
            have y1 := cell_blk (i := 1) hHi
            have y2 := cell_blk (i := 2) hHi
            have y3 := cell_blk (i := 3) hHi
            simp at y0 y1 y2 y3
            have hpl := hg.place
            cases m' with
            | succ m' =>
              obtain ⟨h1, h2, h3⟩ := hg
              have hlx := HLess.out a' (by omega)
              have hwh := fun W => where_of s a' hsz W
              generalize whereOf s (a' : Int) = sp at *
              obtain ⟨sx, sy⟩ := sp
              unfold lexLt at hlx
              simp only [] at hlx hwh
              have HWh := Lib.hid hwh
              have HStep := Lib.hid h2
              have HNext := Lib.hid h3
              clear hwh h2 h3
              have hap : a' < p := by omega
              clear hpl
              have HNe : Hid (¬ (sx = tl ∧ sy = tc)) := by unfold Hid; omega
              clear hlx
              go_wp2_with fail
              refine wp_region_held_drew (S := fun w' => w'.cell? ⟨wo.heap.size, 2, none⟩ = some (.int .i64 tl) ∧ w'.cell? ⟨wo.heap.size, 3, none⟩ = some (.int .i64 tc)) (by kernel_rfl) ⟨y2, y3⟩ (fun hHeld => ?_)
              refine take_at (i := 0) (v := ?_) rfl (by kernel_rfl) (by kernel_rfl) (by kernel_rfl) (fun _ _ _ h => h) (Or.inl ⟨by rfl, ?_⟩) hHeld ?_
              rotate_left
              · intro w hSw
                (try dsimp only at hSw)
                go_simp
                try with_reducible rfl
              try simp only [Act.put, List.setIfInBounds_toArray, List.set_cons_zero, List.set_cons_succ]
              try dsimp only
              refine take_at (i := 1) (v := ?_) rfl (by kernel_rfl) (by kernel_rfl) (by kernel_rfl) (fun _ _ _ h => h) (Or.inl ⟨by rfl, ?_⟩) hHeld ?_
              rotate_left
              · intro w hSw
                (try dsimp only at hSw)
                go_simp
                try with_reducible rfl
              try simp only [Act.put, List.setIfInBounds_toArray, List.set_cons_zero, List.set_cons_succ]
              try dsimp only
              refine take_at (i := 2) (v := ?_) rfl (by kernel_rfl) (by kernel_rfl) (by kernel_rfl) (fun _ _ _ h => h) (Or.inl ⟨by rfl, ?_⟩) hHeld ?_
              rotate_left
              · intro w hSw
                (try dsimp only at hSw)
                go_simp
                try with_reducible rfl
              try simp only [Act.put, List.setIfInBounds_toArray, List.set_cons_zero, List.set_cons_succ]
              try dsimp only
              refine take_at (i := 3) (v := ?_) rfl (by kernel_rfl) (by kernel_rfl) (by kernel_rfl) (fun _ _ _ h => h) (Or.inl ⟨by rfl, ?_⟩) hHeld ?_
              rotate_left
              · intro w hSw
                (try dsimp only at hSw)
                go_simp
                try with_reducible rfl
              try simp only [Act.put, List.setIfInBounds_toArray, List.set_cons_zero, List.set_cons_succ]
              try dsimp only
              refine take_at (i := 4) (v := ?_) rfl (by kernel_rfl) (by kernel_rfl) (by kernel_rfl) (fun _ _ _ h => h) (Or.inl ⟨by rfl, ?_⟩) hHeld ?_
              rotate_left
              · intro w hSw
                (try dsimp only at hSw)
                go_simp
                try with_reducible rfl
              try simp only [Act.put, List.setIfInBounds_toArray, List.set_cons_zero, List.set_cons_succ]
              try dsimp only
              refine take_at (i := 5) (v := ?_) rfl (by kernel_rfl) (by kernel_rfl) (by kernel_rfl) (fun _ _ _ h => h) (Or.inl ⟨by rfl, ?_⟩) hHeld ?_
              rotate_left
              · intro w hSw
                (try dsimp only at hSw)
                go_simp
                try with_reducible rfl
              try simp only [Act.put, List.setIfInBounds_toArray, List.set_cons_zero, List.set_cons_succ]
              try dsimp only
              refine take_at (i := 6) (v := ?_) rfl (by kernel_rfl) (by kernel_rfl) (by kernel_rfl) (fun _ _ _ h => h) (Or.inl ⟨by rfl, ?_⟩) hHeld ?_
              rotate_left
              · intro w hSw
                (try dsimp only at hSw)
                go_simp
                try with_reducible rfl
              try simp only [Act.put, List.setIfInBounds_toArray, List.set_cons_zero, List.set_cons_succ]
              try dsimp only
              refine take_at (i := 8) (v := ?_) rfl (by kernel_rfl) (by kernel_rfl) (by kernel_rfl) (fun _ _ _ h => h) (Or.inl ⟨by rfl, ?_⟩) hHeld ?_
              rotate_left
              · intro w hSw
                (try dsimp only at hSw)
                go_simp
                try with_reducible rfl
              try simp only [Act.put, List.setIfInBounds_toArray, List.set_cons_zero, List.set_cons_succ]
              try dsimp only
              refine take_at (i := 9) (v := ?_) rfl (by kernel_rfl) (by kernel_rfl) (by kernel_rfl) (fun _ _ _ h => h) (Or.inl ⟨by rfl, ?_⟩) hHeld ?_
              rotate_left
              · intro w hSw
                (try dsimp only at hSw)
                go_simp
                try with_reducible rfl
              try simp only [Act.put, List.setIfInBounds_toArray, List.set_cons_zero, List.set_cons_succ]
              try dsimp only
              refine wpAnyH_ready (rs := [7]) (by kernel_rfl) (by simp) ?_
              refine cons_at rfl (fun K hK => ?_) AllReadyH.nil
              go_simp
              refine (HWh.out _).mono ?_
              rintro e w5 ⟨rfl, b5⟩
              refine hK.out _ _ ⟨cell_later b5 y2, cell_later b5 y3⟩ (fun hHeld => ?_)
              clear hK K
              try simp only [Act.put, List.setIfInBounds_toArray, List.set_cons_zero, List.set_cons_succ]
              try dsimp only
              refine take_at (i := 10) (v := .bool true) rfl (by kernel_rfl) (by kernel_rfl) (by kernel_rfl) (fun _ _ _ h => h) (Or.inl ⟨by rfl, ?_⟩) hHeld ?_
              · intro w hSw
                (try dsimp only at hSw)
                go_simp
                exact fun e1 e2 => HNe.out ⟨e1, e2⟩
              try simp only [Act.put, List.setIfInBounds_toArray, List.set_cons_zero, List.set_cons_succ]
              try dsimp only
              refine take_at (i := 11) (v := ?_) rfl (by kernel_rfl) (by kernel_rfl) (by kernel_rfl) (fun _ _ _ h => h) (Or.inl ⟨by rfl, ?_⟩) hHeld ?_
              rotate_left
              · intro w hSw
                (try dsimp only at hSw)
                go_simp
                try with_reducible rfl
              try simp only [Act.put, List.setIfInBounds_toArray, List.set_cons_zero, List.set_cons_succ]
              try dsimp only
              refine take_at (i := 12) (v := undef) rfl (by kernel_rfl) (by kernel_rfl) (by kernel_rfl) (fun _ _ _ h => h) (Or.inr ⟨by rfl, rfl⟩) hHeld ?_
              try simp only [Act.put, List.setIfInBounds_toArray, List.set_cons_zero, List.set_cons_succ]
              try dsimp only
              refine take_at (i := 13) (v := ?_) rfl (by kernel_rfl) (by kernel_rfl) (by kernel_rfl) (fun _ _ _ h => h) (Or.inl ⟨by rfl, ?_⟩) hHeld ?_
              rotate_left
              · intro w hSw
                (try dsimp only at hSw)
                go_simp
                try with_reducible rfl
              try simp only [Act.put, List.setIfInBounds_toArray, List.set_cons_zero, List.set_cons_succ]
              try dsimp only
              refine take_at (i := 14) (v := ?_) rfl (by kernel_rfl) (by kernel_rfl) (by kernel_rfl) (fun _ _ _ h => h) (Or.inl ⟨by rfl, ?_⟩) hHeld ?_
              rotate_left
              · intro w hSw
                (try dsimp only at hSw)
                go_simp
                try with_reducible rfl
              try simp only [Act.put, List.setIfInBounds_toArray, List.set_cons_zero, List.set_cons_succ]
              try dsimp only
              refine wpAnyH_done (by kernel_rfl) ?_ _
              have hb5 : Below W2.heap.size W2 w5 := hbi.drew.trans (b5.mono hbi.drew.size)
              have hbv := byteAt_val s a' h1
              generalize hbb : byteAt s a' = bt at *
              clear b5 hHeld hbb y0 y1 y2 y3 hHi
              have h1i : (a' : Int) < (s.size : Int) := by omega
              have h0i : (0 : Int) ≤ (a' : Int) := by omega
              by_cases e35 : bt = 35
              · have hrn : Hid (remNext bt rm = true) := by unfold Hid remNext; rw [if_neg (by omega), if_pos e35]
                have q1 : (((s[a']'h1).toNat : Int) == 35) = true := by rw [hbv]; simp; omega
                have q2 : (((s[a']'h1).toNat : Int) == 10) = false := by rw [hbv]; simp; omega
                have HBV := Lib.hid hbv
                clear hbv e35
                go_wp2
                go_roundw
                case rel => exact ⟨m', a' + 1, true, by go_num, rfl, by have := HNext.out; rwa [hrn.out] at this, hb5⟩
                case measure => simp [RowKit.intOf]; omega
              · by_cases e10 : bt = 10
                · have hrn : Hid (remNext bt rm = false) := by unfold Hid remNext; rw [if_pos e10]
                  have q1 : (((s[a']'h1).toNat : Int) == 35) = false := by rw [hbv]; simp; omega
                  have q2 : (((s[a']'h1).toNat : Int) == 10) = true := by rw [hbv]; simp; omega
                  have q3 : (((s[a']'h1).toNat : Int) != 32) = true := by rw [hbv]; simp; omega
                  have q4 : (((s[a']'h1).toNat : Int) != 9) = true := by rw [hbv]; simp; omega
                  have q5 : (((s[a']'h1).toNat : Int) != 10) = false := by rw [hbv]; simp; omega
                  have HBV := Lib.hid hbv
                  clear hbv e35 e10
                  go_wp2
                  go_roundw
                  case rel => exact ⟨m', a' + 1, false, by go_num, rfl, by have := HNext.out; rwa [hrn.out] at this, hb5⟩
                  case measure => simp [RowKit.intOf]; omega
                · have hrn : Hid (remNext bt rm = rm) := by unfold Hid remNext; rw [if_neg e10, if_neg e35]
                  have q1 : (((s[a']'h1).toNat : Int) == 35) = false := by rw [hbv]; simp; omega
                  have q2 : (((s[a']'h1).toNat : Int) == 10) = false := by rw [hbv]; simp; omega
                  cases rm with
                  | true =>
                    have HBV := Lib.hid hbv
                    clear hbv e35 e10
                    go_wp2
                    go_roundw
                    case rel => exact ⟨m', a' + 1, true, by go_num, rfl, by have := HNext.out; rwa [hrn.out] at this, hb5⟩
                    case measure => simp [RowKit.intOf]; omega
                  | false =>
                    have hbl : bt = 32 ∨ bt = 9 ∨ bt = 13 := by
                      have h := HStep.out
                      rw [hrn.out] at h
                      unfold blankN at h
                      rcases h with h | h
                      · cases h
                      · omega
                    have q5 : (((s[a']'h1).toNat : Int) != 10) = true := by rw [hbv]; simp; omega
                    rcases hbl with hbl | hbl | hbl
                    · have q3 : (((s[a']'h1).toNat : Int) != 32) = false := by rw [hbv]; simp; omega
                      have HBV := Lib.hid hbv
                      clear hbv e35 e10 hbl
                      go_wp2
                      go_roundw
                      case rel => exact ⟨m', a' + 1, false, by go_num, rfl, by have := HNext.out; rwa [hrn.out] at this, hb5⟩
                      case measure => simp [RowKit.intOf]; omega
                    · have q3 : (((s[a']'h1).toNat : Int) != 32) = true := by rw [hbv]; simp; omega
                      have q4 : (((s[a']'h1).toNat : Int) != 9) = false := by rw [hbv]; simp; omega
                      have HBV := Lib.hid hbv
                      clear hbv e35 e10 hbl
                      go_wp2
                      go_roundw
                      case rel => exact ⟨m', a' + 1, false, by go_num, rfl, by have := HNext.out; rwa [hrn.out] at this, hb5⟩
                      case measure => simp [RowKit.intOf]; omega
                    · have q3 : (((s[a']'h1).toNat : Int) != 32) = true := by rw [hbv]; simp; omega
                      have q4 : (((s[a']'h1).toNat : Int) != 9) = true := by rw [hbv]; simp; omega
                      have q6 : (((s[a']'h1).toNat : Int) != 13) = false := by rw [hbv]; simp; omega
                      have HBV := Lib.hid hbv
                      clear hbv e35 e10 hbl
                      go_wp2
                      go_roundw
                      case rel => exact ⟨m', a' + 1, false, by go_num, rfl, by have := HNext.out; rwa [hrn.out] at this, hb5⟩
                      case measure => simp [RowKit.intOf]; omega
            | zero =>
              obtain ⟨rfl, rfl⟩ := hg
              have hsame := HSame.out
              have hrest := HRest.out
              have hwh := fun W => where_of s a' hsz W
              rw [hsame] at hwh
              simp only [] at hwh
              have HWh := Lib.hid hwh
              have HSame2 := Lib.hid hsame
              clear hwh hsame hpl
              by_cases hpe : a' < s.size
              · have hrf : rm = false := by
                  cases hq : rm with
                  | false => rfl
                  | true => exact absurd (HrmE.out hq) (by omega)
                rcases hrest with ⟨_, _, _, h4⟩ | ⟨_, k1, k2, k3, k4, k5, k6, k7⟩
                · omega
                subst hrf
                have h1i : (a' : Int) < (s.size : Int) := by omega
                have K4 := Lib.hid k4
                have K6 := Lib.hid k6
                have K7 := Lib.hid k7
                clear k4 k6 k7
                go_wp2_with fail
                go_region_held3 (fun w' => w'.cell? ⟨wo.heap.size, 2, none⟩ = some (.int .i64 tl) ∧ w'.cell? ⟨wo.heap.size, 3, none⟩ = some (.int .i64 tc))
                  (first
                    | go_keep
                    | (exact ⟨cell_later b5 y2, cell_later b5 y3⟩))
                  (first
                    | (go_at_call 13; refine (HWh.out _).mono ?_; rintro e w5 ⟨rfl, b5⟩))
                have hb5 : Below W2.heap.size W2 w5 := hbi.drew.trans (b5.mono hbi.drew.size)
                have hH5 := (hb5.block _ hHl).trans hH
                have z0 := cell_blk (i := 0) hH5
                have z1 := cell_blk (i := 1) hH5
                simp at z0 z1
                have q0 : ((kd : Int) == 0) = false := by simp; omega
                clear b5 y0 y1 y2 y3
                have T5 := (hT1.out.below (later_trans hbw2 hb5))
                have s1 : IntKind.i64.wrap ((a' : Int) + (tx.size : Nat)) = (a' : Int) + (tx.size : Nat) := IntWalk.i64_in _ (by omega)
                have s2 : (0 : Int) ≤ (a' : Int) + (tx.size : Nat) := by omega
                have s3 : ((a' : Int) + (tx.size : Nat)).toNat = a' + tx.size := by omega
                have s4 : (a' : Int) + (tx.size : Nat) ≤ (s.size : Int) := by omega
                have s5 : (a' : Int) ≤ (a' : Int) + (tx.size : Nat) := by omega
                have s6 : ¬ (s.size : Int) < (a' : Int) + (tx.size : Nat) := by omega
                have s7 : decide ((s.size : Int) < (a' : Int) + (tx.size : Nat)) = false := by simp; omega
                have e1 : tx.toList.isEmpty = false := by
                  rw [Lib.toList_data]
                  cases hl : tx.data.toList with
                  | nil => rw [Lib.size_eq, hl] at k3; exact absurd k3 (by decide)
                  | cons _ _ => rfl
                have e3 : s.extract a' (a' + tx.size) = tx := K6.out.symm
                by_cases hk : kd = 1
                · have q7 : ((kd : Int) == 1) = true := by simp; omega
                  have HW : Hid (∀ W, Tabs W → Calls Tryd.prog 11 #[.string tx] W fun e w' => e = .returned (.bool true) ∧ Below W.heap.size W w') := by
                    have hw := K4.out
                    intro W hW
                    refine word_ex tx true ?_ (by unfold maxLen; omega) W hW
                    rw [hw]
                    simp [hk]
                  clear hk
                  go_wp2_with fail
                  go_region_held3 (fun w' => w'.cell? ⟨wo.heap.size, 0, none⟩ = some (.int .u8 kd) ∧ w'.cell? ⟨wo.heap.size, 1, none⟩ = some (.string tx))
                    (first
                      | go_keep
                      | (exact ⟨cell_later b6 z0, cell_later b6 z1⟩))
                    (first
                      | (go_at_call 11; refine (HW.out _ (by first | exact T5 | exact T5.below (Below.refl _ _).drew)).mono ?_; rintro e w6 ⟨rfl, b6⟩))
                  have hb6 : Below W2.heap.size W2 w6 := hb5.drew.trans (b6.mono hb5.drew.size)
                  have hH6 := (hb6.block _ hHl).trans hH
                  have u1 := cell_blk (i := 1) hH6
                  simp at u1
                  clear b6 z0 z1
                  go_wp2
                  go_roundw
                  case rel => exact ⟨i + 1, a' + tx.size, by omega, by go_num, by go_num, rfl, by omega, K7.out, later_trans hbw2 hb6⟩
                  case measure => simp [RowKit.intOf]; omega
                · have q7 : ((kd : Int) == 1) = false := by simp; omega
                  have HW : Hid (∀ W, Tabs W → Calls Tryd.prog 11 #[.string tx] W fun e w' => e = .returned (.bool false) ∧ Below W.heap.size W w') := by
                    have hw := K4.out
                    intro W hW
                    refine word_ex tx false ?_ (by unfold maxLen; omega) W hW
                    rw [hw]
                    simp [hk]
                  clear hk
                  go_wp2_with fail
                  go_region_held3 (fun w' => w'.cell? ⟨wo.heap.size, 0, none⟩ = some (.int .u8 kd) ∧ w'.cell? ⟨wo.heap.size, 1, none⟩ = some (.string tx))
                    (first
                      | go_keep
                      | (exact ⟨cell_later b6 z0, cell_later b6 z1⟩))
                    (first
                      | (go_at_call 11; refine (HW.out _ (by first | exact T5 | exact T5.below (Below.refl _ _).drew)).mono ?_; rintro e w6 ⟨rfl, b6⟩))
                  have hb6 : Below W2.heap.size W2 w6 := hb5.drew.trans (b6.mono hb5.drew.size)
                  have hH6 := (hb6.block _ hHl).trans hH
                  have u1 := cell_blk (i := 1) hH6
                  simp at u1
                  clear b6 z0 z1
                  go_wp2
                  go_roundw
                  case rel => exact ⟨i + 1, a' + tx.size, by omega, by go_num, by go_num, rfl, by omega, K7.out, later_trans hbw2 hb6⟩
                  case measure => simp [RowKit.intOf]; omega
              · rcases hrest with ⟨k1, k2, k3, k4⟩ | ⟨k0, _⟩
                rotate_left
                · exact absurd k0 hpe
                have hin : i + 1 = n := by
                  have h9 := List.drop_eq_nil_iff.mp k1
                  have := HN.out
                  omega
                clear k1
                obtain ⟨z, hz⟩ : ∃ z, z = s.size := ⟨_, rfl⟩
                obtain rfl : a' = s.size := by omega
                clear hz z
                have s8 : IntKind.i64.wrap ((n : Int) - 1) = (n : Int) - 1 := IntWalk.i64_in _ (by omega)
                have q9 : ((i : Int) == (n : Int) - 1) = true := by simp; omega
                have q0 : ((kd : Int) == 0) = true := by simp; omega
                have e1 : tx.toList.isEmpty = true := by rw [k3, Lib.toList_data]; rfl
                have hbn := fun k => below_drewN hbi k
                have Ti := fun k => hT1.out.below (later_trans hbw2 (hbn k))
                clear k2 k3 k4 hpe
                go_wp2_with fail
                go_quiet (fail)
                go_wp2_with fail
                go_region_held3 (fun w' => w'.cell? ⟨wo.heap.size, 1, none⟩ = some (.string tx) ∧ w'.cell? ⟨wo.heap.size, 2, none⟩ = some (.int .i64 tl) ∧ w'.cell? ⟨wo.heap.size, 3, none⟩ = some (.int .i64 tc))
                  (first
                    | go_keep
                    | (exact ⟨cell_later b5 y1, cell_later b5 y2, cell_later b5 y3⟩)
                    | (exact ⟨cell_later b6 (cell_later b5 y1), cell_later b6 (cell_later b5 y2), cell_later b6 (cell_later b5 y3)⟩))
                  (first
                    | (go_at_call 13; refine (HWh.out _).mono ?_; rintro e w5 ⟨rfl, b5⟩)
                    | (go_at_call 6; refine (HL.out _ ((Ti _).below b5)).mono ?_; rintro e w6 ⟨rfl, b6⟩))
                go_wp2
                go_ret
                exact ⟨rfl, later_trans hBase.out (later_trans hbw2 ((hbn _).trans ((b5.trans (b6.mono b5.size)).mono (hbn _).size)))⟩
        · exfalso
          have : ts.drop i = [] := List.drop_eq_nil_of_le (by have := HN.out; omega)
          rw [this] at hC
          exact hC
    · have q : ((er : Int) != 0) = true := by simp; omega
      clear c2
      go_wp2_with fail
      refine (HL.out _ T1).mono ?_
      rintro e w2 ⟨rfl, b2⟩
      go_wp2
      go_ret
      exact ⟨rfl, later_trans B1 b2⟩
end Go.Proofs.YtdpahcnenjnbhaaDoor
