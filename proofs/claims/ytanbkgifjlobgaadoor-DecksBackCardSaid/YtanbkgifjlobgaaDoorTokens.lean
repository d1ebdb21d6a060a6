/- scan.Tokens: what it answers, for every text. -/
import Derived.Test.YtanbkgifjlobgaaDoorMem
import Derived.Deep.RegionHeld3
import Derived.Deep.AppendLies
import Derived.Deep.DeepCutAuto
import Derived.RegionTactic
import Derived.ChangeAlike
import Derived.BigRegion
namespace Go.Proofs.YtanbkgifjlobgaaDoor
open Go.RowKit Go.Lib

theorem clone_any (s : ByteArray) (w : World) (hs : s.size ≤ 281474976710656) :
    Calls Tryd.prog 27 #[.string s] w fun e w' => e = .returned (.string s) ∧ Below w.heap.size w w' := by
  have hc := Tryd.stringslite_Clone s w hs
  have HC := Lib.hid hc
  clear hc
  go_enter Tryd.func27, Tryd.ntmps27
  go_wp2_with fail
  refine HC.out.mono ?_
  rintro e w1 ⟨rfl, b1⟩
  go_wp2
  go_ret
  exact ⟨rfl, b1⟩

theorem tok_info : (Tryd.prog.info? 57).map (fun i => (i.zero, i.size, i.bytes)) = some (some (.agg #[.int .u8 0, .string ⟨#[]⟩, .int .i64 0, .int .i64 0]), 4, 40) := by kernel_rfl

/-- What the call hands back, in memory. -/
def Answers (w : World) (r : Toks) (e : Ending) (w' : World) : Prop :=
  ∃ v, e = .returned (.tuple #[v, .agg #[.int .i64 r.2.1, .int .i64 r.2.2.1, .int .i64 r.2.2.2]]) ∧ w'.ownsRow w.heap.size 57 4 v r.1.length (toksCells r.1) ∧ Below w.heap.size w w'

set_option maxHeartbeats 4000000 in
set_option maxRecDepth 100000 in
theorem tokens_small (s : ByteArray) (w : World) (hs : s.size ≤ 65536) (hT : Tabs w) :
    Calls Tryd.prog 15 #[.string s] w (Answers w (scanOf s)) := by
  have hd : decide ((65536 : Int) < (s.size : Int)) = false := by simp; omega
  have HO : Hid (scanOf s = scanGo s s.size 0 (1, 1) false 0 []) := by unfold scanOf; rw [if_neg (by omega)]; exact rfl
  obtain ⟨i0, hi0, hz0, hz1, hz2⟩ := info_parts tok_info
  go_enter Tryd.func15, Tryd.ntmps15
  go_wp2_with fail
  refine (beginning_any _).mono ?_
  rintro e w1 ⟨rfl, b1⟩
  have hB1 : w.heap.size + 1 ≤ w1.heap.size := by have := b1.size; simpa using this
  have hF1 : w1.heap[w.heap.size]? = some (.cells #[.int .i64 0, .int .i64 0, .int .i64 0] 32 (0, 0)) := by
    rw [b1.block _ (by simp)]
    exact heap_alloc_new w _
  have hb0 : Below w.heap.size w w1 := ((Below.refl _ w).alloc (Nat.le_refl _) _).trans (b1.mono (by simp))
  go_wp2
  go_loopw [5, 6, 7] (fun v5 v6 v7 wr => ∃ (pos fuel behind : Nat) (here : Int × Int) (remark : Bool) (acc : List Tok), v6 = .bool remark ∧ v7 = .int .i64 behind ∧ AtRune w wr w.heap.size w1.heap.size s pos here v5 acc ∧
      scanGo s fuel pos here remark behind acc = scanOf s ∧ s.size ≤ pos + fuel ∧ pos ≤ s.size ∧ behind ≤ s.size ∧ acc.length ≤ pos ∧ (0 ≤ here.1 ∧ 0 ≤ here.2 ∧ here.1 ≤ pos + 1 ∧ here.2 ≤ pos + 1)) (fun _ _ _ wr => s.size - wr.iterPos (w1.heap.size + 1))
  case atStart =>
    refine ⟨0, s.size, 0, (1, 1), false, [], rfl, rfl, ⟨?_, ?_, ?_, World.ownsRow_nil _ _ _ _, ?_, by omega⟩, HO.out.symm, by omega, by omega, by omega, by simp, by simp⟩
    · rw [World.iter, Below.heap_alloc _ _ _ (by simp; omega), Below.heap_alloc _ _ _ (by omega)]; exact hF1
    · rw [World.iter, Below.heap_alloc _ _ _ (by simp)]; exact heap_alloc_new w1 _
    · have := World.iter_heap (w1.alloc (.cells #[.int .i64 1, .int .i64 1] 30)) s 0
      simpa using this
    · exact (hb0.alloc (by omega) _).alloc (by simp; omega) _
  case round =>
    obtain ⟨pos, fuel, behind, here, remark, acc, rfl, rfl, hat, hgo, hfu, hpos, hbe, hal, hh⟩ := hrel
    have hmeas := iterPos_of hat.iter
    have HM := Lib.hid hmeas
    have hsz := hat.size
    have hl := hat.lt
    clear hmeas b1 hF1 hb0
    by_cases hp : pos < s.size
    · have hnx : ∀ ty, (Instr.next (.pointer (some ⟨w1.heap.size + 1, 0, none⟩)) true ty).run Tryd.prog wr = _ := fun ty => Lib.run_next_any_at wr (w1.heap.size + 1) s pos ty hat.iter hp
      have hwd := width_pos s pos hp
      have hwf := decode_fits s pos hp
      have hd1 := decode_le s pos
      have hat2 := hat.next (pos + (Utf8.decode s pos).2)
      obtain ⟨f, rfl⟩ : ∃ f, fuel = f + 1 := ⟨fuel - 1, by omega⟩
      have h1 := scanGo_broken s f pos here remark behind acc hp
      have h2 := scanGo_in s f pos here remark behind acc hp
      have h3 := scanGo_remark s f pos here behind acc hp
      have h4 := scanGo_hash s f pos here behind acc hp
      have h5 := scanGo_blank s f pos here behind acc hp
      have h6 := scanGo_tok s f pos here behind acc hp
      have h7 := scanGo_fault s f pos here behind acc hp
      have hts := tokOf_size (s.extract pos s.size) (by simp; omega)
      have htk := tokOf_kind (s.extract pos s.size)
      have htok := fun W hW => tokenAt_any (s.extract pos s.size) W (by simp [maxLen]; omega) (by simp; omega) hW
      have hnp := nextP_bd here (Utf8.decode s pos).1 pos hh
      have hnc := fun W => next_any here.1 here.2 (Utf8.decode s pos).1 W (by omega) (by omega) (by omega) (by omega)
      have hbr := fun W => broken_any (s.extract pos s.size) (Utf8.decode s pos).1 W
      have hz2 : (s.extract pos s.size).size = s.size - pos := by simp
      rw [hz2] at hts
      clear hz2
      generalize brokenB (s.extract pos s.size) (Utf8.decode s pos).1 = bb at *
      generalize nextP here (Utf8.decode s pos).1 = here' at *
      generalize wr.iterAt (w1.heap.size + 1) s (pos + (Utf8.decode s pos).2) = W2 at *
      generalize (Utf8.decode s pos).1 = r at *
      generalize (Utf8.decode s pos).2 = n at *
      generalize tokOf (s.extract pos s.size) = tk at *
      obtain ⟨kd, sz, er⟩ := tk
      simp only [] at *
      have HG := Lib.hid hgo
      have H1 := Lib.hid h1
      have H2 := Lib.hid h2
      have H3 := Lib.hid h3
      have H4 := Lib.hid h4
      have H5 := Lib.hid h5
      have H6 := Lib.hid h6
      have H7 := Lib.hid h7
      have HT := Lib.hid htok
      have HN := Lib.hid hnc
      have HB := Lib.hid hbr
      clear hgo h1 h2 h3 h4 h5 h6 h7 htok hnc hbr
      have hsz2 := hat2.size
      obtain ⟨c0, c1, f0, f1⟩ := hat2.cells
      obtain ⟨e0, e1, e2, d0, d1, d2⟩ := hat2.faults
      cases hbb : bb with
      | true =>
        subst hbb
        go_wp2_with (go_at_call 24; refine (HB.out _).mono ?_; rintro e w' ⟨rfl, rfl⟩)
        go_region
        go_wp2
        refine bodyPost_ret (v := .tuple #[.slice none 0 0, .agg #[.int .i64 4, .int .i64 here.1, .int .i64 here.2]]) (by simp [results, Tryd.results15, go_sem, c0, c1, e0, e1, e2]) rfl ?_
        have HR : scanOf s = ([], 4, here) := by rw [← HG.out, H1.out trivial]
        rw [HR]
        exact ⟨_, rfl, World.ownsRow_nil _ _ _ _, (((hat2.below.setCell (p := ⟨w.heap.size, 0, none⟩) (Nat.le_refl _) _).setCell (p := ⟨w.heap.size, 1, none⟩) (Nat.le_refl _) _).setCell (p := ⟨w.heap.size, 2, none⟩) (Nat.le_refl _) _).drew⟩
      | false =>
        subst hbb
        by_cases hbd : pos < behind
        · have HR := Lib.hid (H2.out rfl hbd)
          rw [HG.out] at HR
          go_wp2_with (go_at_call 24; refine (HB.out _).mono ?_; rintro e w' ⟨rfl, rfl⟩)
          refine (HN.out _).mono ?_
          rintro e w4 ⟨rfl, b4⟩
          have hat4 := hat2.later b4
          obtain ⟨c0', c1', f0', f1'⟩ := hat4.cells
          have hat5 := hat4.set here'.1 here'.2
          go_wp2
          go_roundw
          case rel => exact ⟨pos + n, f, behind, here', remark, acc, rfl, rfl, hat5, HR.out.symm, by omega, by omega, by omega, by omega, by omega⟩
          case measure => rw [HM.out, iterPos_of hat5.iter]; omega
        · cases hre : remark with
          | true =>
            subst hre
            have HR := Lib.hid (H3.out rfl hbd)
            rw [HG.out] at HR
            go_wp2_with (go_at_call 24; refine (HB.out _).mono ?_; rintro e w' ⟨rfl, rfl⟩)
            refine (HN.out _).mono ?_
            rintro e w4 ⟨rfl, b4⟩
            have hat4 := hat2.later b4
            obtain ⟨c0', c1', f0', f1'⟩ := hat4.cells
            have hat5 := hat4.set here'.1 here'.2
            go_wp2
            go_roundw
            case rel => exact ⟨pos + n, f, behind, here', ((r : Int) != 10), acc, rfl, rfl, hat5, HR.out.symm, by omega, by omega, by omega, by omega, by omega⟩
            case measure => rw [HM.out, iterPos_of hat5.iter]; omega
          | false =>
            subst hre
            by_cases hr : r = 35
            · have HR := Lib.hid (H4.out rfl hbd hr)
              rw [HG.out] at HR
              have q : ((r : Int) == 35) = true := by simp; omega
              clear hr
              go_wp2_with (go_at_call 24; refine (HB.out _).mono ?_; rintro e w' ⟨rfl, rfl⟩)
              refine (HN.out _).mono ?_
              rintro e w4 ⟨rfl, b4⟩
              have hat4 := hat2.later b4
              obtain ⟨c0', c1', f0', f1'⟩ := hat4.cells
              have hat5 := hat4.set here'.1 here'.2
              go_wp2
              go_roundw
              case rel => exact ⟨pos + n, f, behind, here', true, acc, rfl, rfl, hat5, HR.out.symm, by omega, by omega, by omega, by omega, by omega⟩
              case measure => rw [HM.out, iterPos_of hat5.iter]; omega
            · have q : ((r : Int) == 35) = false := by simp; omega
              cases hbl : blankB r with
              | true =>
                have HR := Lib.hid (H5.out rfl hbd hr hbl)
                rw [HG.out] at HR
                clear hr
                go_wp2_with (first | (go_at_call 24; refine (HB.out _).mono ?_; rintro e w' ⟨rfl, rfl⟩) | (go_at_call 25; refine (blank_any _ _).mono ?_; rintro e w' ⟨rfl, rfl⟩))
                refine (HN.out _).mono ?_
                rintro e w4 ⟨rfl, b4⟩
                have hat4 := hat2.later b4
                obtain ⟨c0', c1', f0', f1'⟩ := hat4.cells
                have hat5 := hat4.set here'.1 here'.2
                go_wp2
                go_roundw
                case rel => exact ⟨pos + n, f, behind, here', false, acc, rfl, rfl, hat5, HR.out.symm, by omega, by omega, by omega, by omega, by omega⟩
                case measure => rw [HM.out, iterPos_of hat5.iter]; omega
              | false =>
                by_cases her : er = 0
                · have HR := Lib.hid (H6.out rfl hbd hr hbl her)
                  rw [HG.out] at HR
                  clear hr
                  subst her
                  go_wp2_with (first | (go_at_call 24; refine (HB.out _).mono ?_; rintro e w' ⟨rfl, rfl⟩) | (go_at_call 25; refine (blank_any _ _).mono ?_; rintro e w' ⟨rfl, rfl⟩))
                  refine (HT.out _ (hT.below hat2.below)).mono ?_
                  rintro e w3 ⟨rfl, b3⟩
                  have hat3 := hat2.later b3
                  obtain ⟨c0'', c1'', f0'', f1''⟩ := hat3.cells
                  have hkd : Hid (acc.length + 1 ≤ 65537) := by unfold Hid; omega
                  have Hat3 := Lib.hid hat3
                  have hsx : (s.extract pos (pos + sz)).size ≤ 281474976710656 := by simp; omega
                  go_wp2_with fail
                  obtain ⟨q, hq⟩ : ∃ q, q = pos + sz := ⟨_, rfl⟩
                  rw [show (pos : Int) + (sz : Int) = (q : Int) from by omega]
                  rw [← hq] at hsx HR
                  have hq1 : pos ≤ q := by omega
                  have hq2 : q ≤ s.size := by omega
                  have HQ := Lib.hid hq
                  clear hq
                  go_region_held3 (fun w' => w'.cell? ⟨w1.heap.size, 0, none⟩ = some (.int .i64 here.1) ∧ w'.cell? ⟨w1.heap.size, 1, none⟩ = some (.int .i64 here.2))
                    (first
                      | go_keep
                      | (exact ⟨((Hat3.out.later b5).cells).1, ((Hat3.out.later b5).cells).2.1⟩) | (exact ⟨((Hat3.out.drew.later b5).cells).1, ((Hat3.out.drew.later b5).cells).2.1⟩)
                      | (have hatE := (hat5.alloc _).grown (acc' := acc ++ [⟨kd, s.extract pos q, here⟩]) (by rw [toksCells_snoc, List.length_append]; exact hown6) hgrow; exact ⟨hatE.cells.1, hatE.cells.2.1⟩))
                    (first
                      | (go_at_call 27; refine (clone_any _ _ hsx).mono ?_; rintro e w5 ⟨rfl, b5⟩)
                      | (have hat5 : AtRune w w5 w.heap.size w1.heap.size s (pos + n) here _ acc := (by first | exact Hat3.out.drew.later b5 | exact Hat3.out.later b5)
                         (refine step_append_lies _ (by rfl) _ _ _ (by rfl) (w1.heap.size + 2) 57 i0 _ 4 40 Tryd.underlying47 hi0 hz0 hz1 hz2 rfl (by omega) _ acc.length (toksCells acc) (by rfl) (hat5.own.alloc _) ⟨w5.heap.size, 0, none⟩ 1 1 (Tok.cells ⟨kd, s.extract pos q, here⟩) (by rfl) (by rfl) (World.news_of_block (cs := #[.int .u8 kd, .string (s.extract pos q), .int .i64 here.1, .int .i64 here.2]) (t := 57) (fr := (0, 0)) (heap_alloc_new _ _)) (by simp [Tok.cells, Value.oneCell']) (by omega) (by unfold maxLen; have := hkd.out; omega) (by have := hkd.out; omega) (by have := hat5.size; simp; omega) _ rfl ?_; intro g cap w6 hown6 hgrow hat6 hlt)))
                  have hatE := (hat5.alloc _).grown (acc' := acc ++ [⟨kd, s.extract pos q, here⟩]) (by rw [toksCells_snoc, List.length_append]; exact hown6) hgrow
                  go_wp2_with fail
                  refine (HN.out _).mono ?_
                  rintro e w7 ⟨rfl, b7⟩
                  have hat7 : AtRune w w7 w.heap.size w1.heap.size s (pos + n) here _ (acc ++ [⟨kd, s.extract pos q, here⟩]) := (by first | exact hatE.drew.later b7 | exact hatE.later b7)
                  obtain ⟨c0', c1', f0', f1'⟩ := hat7.cells
                  have hat8 := hat7.set here'.1 here'.2
                  go_wp2
                  go_roundw
                  case rel => exact ⟨pos + n, f, q, here', false, acc ++ [⟨kd, s.extract pos q, here⟩], rfl, rfl, hat8, HR.out.symm, by omega, by omega, by omega, by rw [List.length_append]; simp; omega, by omega⟩
                  case measure => rw [HM.out, iterPos_of hat8.iter]; omega
                · have HR : Hid (scanOf s = ([], er, here)) := by rw [← HG.out, H7.out rfl hbd hr hbl her]; exact rfl
                  have q2 : ((er : Int) != 0) = true := by simp; omega
                  clear hr her
                  go_wp2_with (first | (go_at_call 24; refine (HB.out _).mono ?_; rintro e w' ⟨rfl, rfl⟩) | (go_at_call 25; refine (blank_any _ _).mono ?_; rintro e w' ⟨rfl, rfl⟩))
                  refine (HT.out _ (hT.below hat2.below)).mono ?_
                  rintro e w3 ⟨rfl, b3⟩
                  have hat3 := hat2.later b3
                  obtain ⟨c0'', c1'', f0'', f1''⟩ := hat3.cells
                  obtain ⟨e0'', e1'', e2'', d0'', d1'', d2''⟩ := hat3.faults
                  go_wp2
                  go_region
                  go_wp2
                  refine bodyPost_ret (v := .tuple #[.slice none 0 0, .agg #[.int .i64 er, .int .i64 here.1, .int .i64 here.2]]) (by simp [results, Tryd.results15, go_sem, c0'', c1'', e0'', e1'', e2'']) rfl ?_
                  rw [HR.out]
                  exact ⟨_, rfl, World.ownsRow_nil _ _ _ _, (((hat3.below.setCell (p := ⟨w.heap.size, 0, none⟩) (Nat.le_refl _) _).setCell (p := ⟨w.heap.size, 1, none⟩) (Nat.le_refl _) _).setCell (p := ⟨w.heap.size, 2, none⟩) (Nat.le_refl _) _).drew⟩
    · have hnx : ∀ ty, (Instr.next (.pointer (some ⟨w1.heap.size + 1, 0, none⟩)) true ty).run Tryd.prog wr = _ := fun ty => Lib.run_next_end_at wr (w1.heap.size + 1) s pos ty hat.iter hp
      have hend := scanGo_end s fuel pos here remark behind acc hp
      rw [hgo] at hend
      have HR := Lib.hid hend
      clear hgo hend
      obtain ⟨c0, c1, f0, f1⟩ := hat.cells
      obtain ⟨e0, e1, e2, d0, d1, d2⟩ := hat.faults
      have HA := Lib.hid hat
      clear hat
      go_wp2_with (at_builtin; (refine wpList_append_lies _ rfl (.tmp 78) (.tmp 81) 47 rfl (w1.heap.size + 2) 57 i0 _ 4 40 Tryd.underlying47 hi0 hz0 hz1 hz2 rfl (by omega) _ acc.length (toksCells acc) rfl (HA.out.own.alloc _) ⟨wr.heap.size, 0, none⟩ 1 1 (endTok here).cells rfl rfl (World.news_of_block (cs := #[.int .u8 0, .string ⟨#[]⟩, .int .i64 here.1, .int .i64 here.2]) (t := 57) (fr := (0, 0)) (heap_alloc_new _ _)) (by simp [endTok, Tok.cells, Value.oneCell']) (by omega) (by unfold maxLen; omega) (by omega) (by simp; omega) _ rfl ?_; intro g cap w2 hown2 hgrow hat2 hlt; have hatE := (HA.out.alloc _).grown (acc' := acc ++ [endTok here]) (by rw [toksCells_snoc, List.length_append]; exact hown2) hgrow; obtain ⟨q0, q1, q2, p0, p1, p2⟩ := hatE.faults))
      refine bodyPost_ret (v := .tuple #[.slice (some ⟨g, 0, none⟩) (acc.length + 1) cap, .agg #[.int .i64 0, .int .i64 0, .int .i64 0]]) (by simp [results, Tryd.results15, go_sem, q0, q1, q2]) rfl ?_
      rw [HR.out]
      refine ⟨_, rfl, ?_, ?_⟩
      · have ho := ownsRow_set (ownsRow_set (ownsRow_set hatE.own (a := ⟨w.heap.size, 0, none⟩) (by simp; omega) (.int .i64 0)) (a := ⟨w.heap.size, 1, none⟩) (by simp; omega) (.int .i64 0)) (a := ⟨w.heap.size, 2, none⟩) (by simp; omega) (.int .i64 0)
        exact ownsRow_base ho (by omega)
      · exact ((hatE.below.setCell (p := ⟨w.heap.size, 0, none⟩) (Nat.le_refl _) _).setCell (p := ⟨w.heap.size, 1, none⟩) (Nat.le_refl _) _).setCell (p := ⟨w.heap.size, 2, none⟩) (Nat.le_refl _) _

set_option maxHeartbeats 1000000 in
theorem tokens_great (s : ByteArray) (w : World) (hs : 65536 < s.size) (hm : s.size ≤ maxLen) :
    Calls Tryd.prog 15 #[.string s] w (Answers w (scanOf s)) := by
  have HO : Hid (scanOf s = ([], 3, (1, 1))) := by unfold scanOf; rw [if_pos hs]; exact rfl
  unfold maxLen at hm
  go_enter Tryd.func15, Tryd.ntmps15
  go_wp2_with fail
  refine (beginning_any _).mono ?_
  rintro e w1 ⟨rfl, b1⟩
  have hB1 : w.heap.size + 1 ≤ w1.heap.size := by have := b1.size; simpa using this
  have hF1 : w1.heap[w.heap.size]? = some (.cells #[.int .i64 0, .int .i64 0, .int .i64 0] 32 (0, 0)) := by
    rw [b1.block _ (by simp)]
    exact heap_alloc_new w _
  have hb0 : Below w.heap.size w w1 := ((Below.refl _ w).alloc (Nat.le_refl _) _).trans (b1.mono (by simp))
  have e0 : w1.cell? ⟨w.heap.size, 0, none⟩ = some (.int .i64 0) := by rw [cell_blk hF1]; rfl
  have e1 : w1.cell? ⟨w.heap.size, 1, none⟩ = some (.int .i64 0) := by rw [cell_blk hF1]; rfl
  have e2 : w1.cell? ⟨w.heap.size, 2, none⟩ = some (.int .i64 0) := by rw [cell_blk hF1]; rfl
  have d0 := free_blk (i := 0) hF1
  have d1 := free_blk (i := 1) hF1
  have d2 := free_blk (i := 2) hF1
  have lt : w.heap.size < w1.heap.size := by omega
  have ne : w1.heap.size ≠ w.heap.size := by omega
  clear b1 hF1
  go_wp2
  go_region
  go_wp2
  refine bodyPost_ret (v := .tuple #[.slice none 0 0, .agg #[.int .i64 3, .int .i64 1, .int .i64 1]]) (by simp [results, Tryd.results15, go_sem, e0, e1, e2, lt, ne]) rfl ?_
  rw [HO.out]
  refine ⟨_, rfl, World.ownsRow_nil _ _ _ _, ?_⟩
  exact ((((hb0.setCell (p := ⟨w.heap.size, 0, none⟩) (Nat.le_refl _) _).setCell (p := ⟨w.heap.size, 1, none⟩) (Nat.le_refl _) _).setCell (p := ⟨w.heap.size, 2, none⟩) (Nat.le_refl _) _).alloc (by simp; omega) _).drew

theorem tokens_any (s : ByteArray) (w : World) (hm : s.size ≤ maxLen) (hT : Tabs w) :
    Calls Tryd.prog 15 #[.string s] w (Answers w (scanOf s)) := by
  by_cases h : 65536 < s.size
  · exact tokens_great s w h hm
  · exact tokens_small s w (by omega) hT
end Go.Proofs.YtanbkgifjlobgaaDoor
