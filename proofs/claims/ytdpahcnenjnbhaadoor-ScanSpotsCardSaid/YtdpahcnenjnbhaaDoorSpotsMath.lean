/- Layer 1 (scan), plain: where tokens stand, and what lies between them. -/
import Derived.Test.YtdpahcnenjnbhaaDoorAgainMathC
import Derived.Test.YtdpahcnenjnbhaaDoorRefTokens
namespace Go.Proofs.YtdpahcnenjnbhaaDoor
open Go.RowKit Go.Lib

/-! ### spots rise -/
def lexLt (a b : Int × Int) : Prop := a.1 < b.1 ∨ (a.1 = b.1 ∧ a.2 < b.2)
def lexLe (a b : Int × Int) : Prop := a.1 < b.1 ∨ (a.1 = b.1 ∧ a.2 ≤ b.2)
theorem next_lt (h : Int × Int) (r : Int) : lexLt h (nextP h r) := by
  unfold nextP lexLt
  split <;> simp <;> omega
theorem lt_le {a b c : Int × Int} (h : lexLt a b) (k : lexLe b c) : lexLt a c := by unfold lexLt lexLe at *; omega
theorem le_of_lt {a b : Int × Int} (h : lexLt a b) : lexLe a b := by unfold lexLt lexLe at *; omega
theorem le_refl (a : Int × Int) : lexLe a a := by unfold lexLe; omega
theorem lt_ne {a b : Int × Int} (h : lexLt a b) : ¬ (a.1 = b.1 ∧ a.2 = b.2) := by unfold lexLt at h; omega

theorem runs_lex (s : ByteArray) : ∀ (k p q : Nat) (here : Int × Int), Runs s k p q → SpotAt s p here → lexLe here (whereOf s q)
  | 0, p, q, here, h, hs => by
    obtain rfl : p = q := h
    rw [hs.at_]
    exact le_refl _
  | k + 1, p, q, here, h, hs => by
    rcases h with rfl | ⟨hp, _, h⟩
    · rw [hs.at_]; exact le_refl _
    · exact le_of_lt (lt_le (next_lt here _) (runs_lex s k _ q _ h (hs.next hp)))
theorem where_lt (s : ByteArray) (a p : Nat) (hap : a < p) : ∀ (k q : Nat) (here : Int × Int), Runs s k q p → SpotAt s q here → q ≤ a → lexLt (whereOf s a) (whereOf s p)
  | 0, q, here, h, hs, hq => by have : q = p := h; omega
  | k + 1, q, here, h, hs, hq => by
    rcases h with rfl | ⟨hp, _, h⟩
    · omega
    · by_cases hc : (a : Int) < (q : Int) + (Utf8.decode s q).2
      · have hw : whereOf s a = here := by rw [← hs s.size a (by omega) (by omega)]; exact whereGo_here s _ q here _ hc
        rw [hw]
        exact lt_le (next_lt here _) (runs_lex s k _ p _ h (hs.next hp))
      · exact where_lt s a p hap k _ _ h (hs.next hp) (by omega)

theorem runs_snoc {s : ByteArray} : ∀ {k p q : Nat}, Runs s k p q → q < s.size → ¬ badAt s q → Runs s (k + 1) p (q + (Utf8.decode s q).2)
  | 0, p, q, h, hq, hb => by
    obtain rfl : p = q := h
    exact Runs.step hq hb rfl
  | k + 1, p, q, h, hq, hb => by
    rcases h with rfl | ⟨h1, h2, h3⟩
    · exact Runs.step hq hb (.inl rfl)
    · exact Runs.step h1 h2 (runs_snoc h3 hq hb)
theorem runs_trans {s : ByteArray} : ∀ {m k p q r : Nat}, Runs s k p q → Runs s m q r → ∃ n, Runs s n p r
  | 0, k, p, q, r, h, h2 => by
    obtain rfl : q = r := h2
    exact ⟨k, h⟩
  | m + 1, k, p, q, r, h, h2 => by
    rcases h2 with rfl | ⟨a, b, c⟩
    · exact ⟨k, h⟩
    · exact runs_trans (runs_snoc h a b) c

/-! ### between tokens -/
/-- The law's own step, a byte: is it in a remark behind it? -/
def remNext (b : Nat) (rm : Bool) : Bool := if b = 10 then false else if b = 35 then true else rm
def blankN (b : Nat) : Prop := b = 32 ∨ b = 9 ∨ b = 10 ∨ b = 13
def GapN (s : ByteArray) : Nat → Nat → Bool → Nat → Bool → Prop
  | 0, a, rm, p, rm' => a = p ∧ rm = rm'
  | n + 1, a, rm, p, rm' => a < s.size ∧ (remNext (byteAt s a) rm = true ∨ blankN (byteAt s a)) ∧ GapN s n (a + 1) (remNext (byteAt s a) rm) p rm'

theorem GapN.snoc {s : ByteArray} : ∀ {n a p : Nat} {rm rm' : Bool}, GapN s n a rm p rm' → p < s.size → (remNext (byteAt s p) rm' = true ∨ blankN (byteAt s p)) → GapN s (n + 1) a rm (p + 1) (remNext (byteAt s p) rm')
  | 0, a, p, rm, rm', h, hp, hb => by
    obtain ⟨rfl, rfl⟩ := h
    exact ⟨hp, hb, rfl, rfl⟩
  | n + 1, a, p, rm, rm', h, hp, hb => ⟨h.1, h.2.1, h.2.2.snoc hp hb⟩
theorem GapN.place {s : ByteArray} : ∀ {n a p : Nat} {rm rm' : Bool}, GapN s n a rm p rm' → p = a + n
  | 0, a, p, rm, rm', h => h.1.symm
  | n + 1, a, p, rm, rm', h => by have := h.2.2.place; omega

theorem decodeN_cont (n b0 b1 b2 b3 : Nat) (h : (decodeN n b0 b1 b2 b3).1 ≠ 65533 ∨ (decodeN n b0 b1 b2 b3).2 ≠ 1) :
    (1 < (decodeN n b0 b1 b2 b3).2 → 128 ≤ b1) ∧ (2 < (decodeN n b0 b1 b2 b3).2 → 128 ≤ b2) ∧ (3 < (decodeN n b0 b1 b2 b3).2 → 128 ≤ b3) ∧ (decodeN n b0 b1 b2 b3).2 ≤ 4 := by
  revert h
  unfold decodeN
  repeat' split
  all_goals intro _
  all_goals dsimp only
  all_goals omega
theorem cont_high (s : ByteArray) (p j : Nat) (hb : ¬ badAt s p) (h0 : 0 < j) (hj : j < (Utf8.decode s p).2) : 128 ≤ byteAt s (p + j) := by
  have h := decodeN_cont (s.size - p) (s.get! p).toNat (s.get! (p + 1)).toNat (s.get! (p + 2)).toNat (s.get! (p + 3)).toNat
  rw [← decode_at] at h
  have h1 := h (by unfold badAt at hb; omega)
  have : j = 1 ∨ j = 2 ∨ j = 3 := by omega
  unfold byteAt
  rcases this with rfl | rfl | rfl
  · exact h1.1 (by omega)
  · exact h1.2.1 (by omega)
  · exact h1.2.2.1 (by omega)

/-- A rune in a remark, byte by byte. -/
theorem gap_rune (s : ByteArray) (a p : Nat) (hp : p < s.size) (hb : ¬ badAt s p) (h10 : byteAt s p ≠ 10) (rm0 : Bool) : ∀ (j n : Nat) (rm : Bool), j ≤ (Utf8.decode s p).2 → (rm = true ∨ (byteAt s p = 35)) → GapN s n a rm0 p rm → 0 < j → ∃ n', GapN s n' a rm0 (p + j) true
  | 0, n, rm, hj, hrm, h, h0 => by omega
  | 1, n, rm, hj, hrm, h, h0 => by
    have hr : remNext (byteAt s p) rm = true := by
      unfold remNext
      rw [if_neg h10]
      split
      · rfl
      · rename_i h35
        rcases hrm with hrm | hrm
        · exact hrm
        · exact absurd hrm h35
    have := h.snoc hp (.inl hr)
    rw [hr] at this
    exact ⟨_, this⟩
  | j + 2, n, rm, hj, hrm, h, h0 => by
    obtain ⟨n', h'⟩ := gap_rune s a p hp hb h10 rm0 (j + 1) n rm (by omega) hrm h (by omega)
    have hc := cont_high s p (j + 1) hb (by omega) (by omega)
    have hwf := decode_fits s p hp
    have hr : remNext (byteAt s (p + (j + 1))) true = true := by
      unfold remNext
      rw [if_neg (by omega), if_neg (by omega)]
    have := h'.snoc (by omega) (.inl hr)
    rw [hr] at this
    exact ⟨_, this⟩

/-- A remark, from a place in it on. -/
theorem gap_remark (s : ByteArray) (a : Nat) (rm0 : Bool) : ∀ (g p n k : Nat) (rm : Bool), p ≤ s.size → s.size - p ≤ g → (rm = true ∨ (p < s.size ∧ byteAt s p = 35)) → GapN s n a rm0 p rm → Runs s k 0 p → ¬ 0 ≤ (remGo s g p).2 →
    ∃ n' k' rm', GapN s n' a rm0 (remGo s g p).1 rm' ∧ Runs s k' 0 (remGo s g p).1 ∧ ((remGo s g p).1 < s.size → byteAt s (remGo s g p).1 = 10) ∧ (remGo s g p).1 ≤ s.size
  | 0, p, n, k, rm, hps, hg, hrm, hgap, hr, hneg => ⟨n, k, rm, hgap, hr, fun h => by simp [remGo] at h; omega, hps⟩
  | g + 1, p, n, k, rm, hps, hg, hrm, hgap, hr, hneg => by
    by_cases hc : p < s.size ∧ byteAt s p ≠ 10
    · have hp := hc.1
      have hw := width_pos s p hp
      have hwf := decode_fits s p hp
      by_cases hb : badAt s p
      · rw [remGo_bad s g p hc hb] at hneg
        exact absurd (Int.natCast_nonneg p) hneg
      · rw [remGo_more s g p hc hb] at hneg ⊢
        obtain ⟨n', h'⟩ := gap_rune s a p hp hb hc.2 rm0 (Utf8.decode s p).2 n rm (Nat.le_refl _) (hrm.imp id (·.2)) hgap hw
        exact gap_remark s a rm0 g _ n' (k + 1) true hwf (by omega) (.inl rfl) h' (runs_snoc hr hp hb) hneg
    · rw [remGo_end s (g + 1) p hc]
      refine ⟨n, k, rm, hgap, hr, fun h => ?_, hps⟩
      simp only [not_and] at hc
      have := hc h
      simpa using this

/-- From the end of one token on: what the law finds. -/
def Chain (s : ByteArray) : Nat → List Tok → Prop
  | _, [] => False
  | a, t :: rest => (rest = [] ∧ t = endTok (whereOf s s.size) ∧ ∃ n rm k, GapN s n a false s.size rm ∧ Runs s k 0 s.size) ∨
      (t.kind ≠ 0 ∧ t.kind ≤ 3 ∧ 0 < t.text.size ∧ (wordB t.text = (t.kind == 1)) ∧ ∃ n p k, GapN s n a false p false ∧ Runs s k 0 p ∧ p < s.size ∧ t.spot = whereOf s p ∧ p + t.text.size ≤ s.size ∧ t.text = s.extract p (p + t.text.size) ∧ Chain s (p + t.text.size) rest)

theorem word_kind {k : Nat} {x : ByteArray} (h : TokOK k x) : wordB x = (k == 1) ∧ k ≠ 0 ∧ k ≤ 3 := by
  have hx0 := tok_pos h
  obtain ⟨ht, _⟩ := tok_again h ⟨#[]⟩ (fun h => absurd h (by decide))
  rw [show x ++ (⟨#[]⟩ : ByteArray) = x from ByteArray.append_empty] at ht
  unfold tokOf at ht
  unfold wordB
  by_cases hw : 0 < (wordOf x).1
  · rw [if_pos hw] at ht
    by_cases h24 : 24 < (wordOf x).2
    · rw [if_pos h24] at ht; simp at ht
    · rw [if_neg h24] at ht
      simp only [Prod.mk.injEq] at ht
      obtain ⟨rfl, h1, _⟩ := ht
      refine ⟨?_, by decide, by decide⟩
      simp [h1]
      omega
  · rw [if_neg hw] at ht
    have hk : k = 2 ∨ k = 3 := by
      by_cases hn : 0 < (numOf x).1
      · rw [if_pos hn] at ht
        split at ht
        · simp at ht; omega
        · simp at ht; omega
      · rw [if_neg hn] at ht
        split at ht
        · simp at ht; omega
        · simp at ht
    refine ⟨?_, by omega, by omega⟩
    have : decide (0 < (wordOf x).1) = false := by simpa using hw
    rw [this]
    rcases hk with rfl | rfl <;> rfl

theorem ref_chain (s : ByteArray) : ∀ (f pos a n k : Nat) (rm : Bool) (acc : List Tok), s.size - pos ≤ f → pos ≤ s.size → GapN s n a false pos rm → Runs s k 0 pos → (rm = true → pos < s.size → byteAt s pos = 10) → (refGo s f pos acc).2.1 = 0 →
    ∃ l, (refGo s f pos acc).1 = acc ++ l ∧ Chain s a l
  | 0, pos, a, n, k, rm, acc, hf, hps, hgap, hr, hrm, h => by
    obtain rfl : pos = s.size := by omega
    exact ⟨[endTok (whereOf s s.size)], rfl, .inl ⟨rfl, rfl, n, rm, k, hgap, hr⟩⟩
  | f + 1, pos, a, n, k, rm, acc, hf, hps, hgap, hr, hrm, h => by
    by_cases hp : pos < s.size
    · have hw := width_pos s pos hp
      have hwf := decode_fits s pos hp
      have hsz : (s.extract pos s.size).size = s.size - pos := by simp
      have hd0 : Utf8.decode (s.extract pos s.size) 0 = Utf8.decode s pos := tail_decode s pos 0
      cases hbl : blankB (Utf8.decode s pos).1 with
      | true =>
        rw [refGo_blank s f pos acc hp hbl] at h ⊢
        have hw1 := blank_byte s pos hp hbl
        have hlow : (Utf8.decode s pos).1 < 128 := by simp [blankB] at hbl; omega
        have hdec := decode_byte s pos hp hlow
        have hbn : blankN (byteAt s pos) := by rw [hdec] at hbl; simp [blankB] at hbl; unfold blankN; omega
        have hnb : ¬ badAt s pos := fun hb => by have := hb.1; omega
        have hr2 := runs_snoc hr hp hnb
        rw [hw1] at hr2
        have hg2 := hgap.snoc hp (.inr hbn)
        have hrf : remNext (byteAt s pos) rm = false := by
          unfold remNext
          by_cases h10 : byteAt s pos = 10
          · rw [if_pos h10]
          · rw [if_neg h10, if_neg (by unfold blankN at hbn; omega)]
            cases rm with
            | false => rfl
            | true => exact absurd (hrm rfl hp) h10
        rw [hrf] at hg2
        exact ref_chain s f (pos + 1) a (n + 1) (k + 1) false acc (by omega) (by omega) hg2 hr2 (fun h => by cases h) h
      | false =>
        have hn10 : byteAt s pos ≠ 10 := fun e => by
          have hdec := decode_low s pos hp (by omega)
          rw [hdec, e] at hbl
          revert hbl
          decide
        have hrmf : rm = false := by
          cases rm with
          | false => rfl
          | true => exact absurd (hrm rfl hp) hn10
        by_cases h35 : (Utf8.decode s pos).1 = 35
        · have hdec := decode_byte s pos hp (by omega)
          have hb35 : byteAt s pos = 35 := by rw [hdec] at h35; exact h35
          by_cases hneg : 0 ≤ (remOf (s.extract pos s.size)).2
          · rw [refGo_bad s f pos acc hp hbl h35 hneg] at h
            simp at h
          · rw [refGo_remark s f pos acc hp hbl h35 hneg] at h ⊢
            obtain ⟨r1, _, r3⟩ := rem_shift s pos (s.size - pos) 0 (by omega)
            have hrem : remOf (s.extract pos s.size) = remGo (s.extract pos s.size) (s.size - pos) 0 := by unfold remOf; rw [hsz]
            rw [← hrem] at r1 r3
            have hq := r3 hneg
            rw [Nat.add_zero] at r1 hq
            obtain ⟨n', k', rm', g1, g2, g3, g4⟩ := gap_remark s a false (s.size - pos) pos n k rm hps (Nat.le_refl _) (.inr ⟨hp, hb35⟩) hgap hr (fun h => hneg (r1.2 h))
            rw [hq] at g1 g2 g3 g4
            have hpos := remOf_pos (s.extract pos s.size) (by omega) (by rw [hd0]; exact h35) hneg
            exact ref_chain s f _ a n' k' rm' acc (by omega) g4 g1 g2 (fun _ h => g3 h) h
        · by_cases ht : (tokOf (s.extract pos s.size)).2.2 = 0
          · rw [refGo_tok s f pos acc hp hbl h35 ht] at h ⊢
            obtain ⟨hz, kk, hk⟩ := tok_runs (s.extract pos s.size) (by omega) ht
            have hk2 := runs_shift s pos kk 0 _ hk
            rw [Nat.add_zero] at hk2
            obtain ⟨k2, hr2⟩ := runs_trans hr hk2
            have hts := tokOf_size (s.extract pos s.size) (by omega)
            rw [hsz] at hts
            have hxs : (s.extract pos (pos + (tokOf (s.extract pos s.size)).2.1)).size = (tokOf (s.extract pos s.size)).2.1 := by simp; omega
            have hxe : s.extract pos (pos + (tokOf (s.extract pos s.size)).2.1) = (s.extract pos s.size).extract 0 (tokOf (s.extract pos s.size)).2.1 := by
              rw [extract_extract s pos 0 s.size _ (by omega), Nat.add_zero]
            have hok : TokOK (tokOf (s.extract pos s.size)).1 (s.extract pos (pos + (tokOf (s.extract pos s.size)).2.1)) := by
              refine ⟨s.extract pos s.size, by omega, ?_, by rw [hxs]; exact hxe, by rw [hd0]; exact hbl, by rw [hd0]; exact h35⟩
              rw [hxs]
              exact Prod.ext rfl (Prod.ext rfl ht)
            obtain ⟨wk, w0, w3⟩ := word_kind hok
            obtain ⟨l, e, hc⟩ := ref_chain s f (pos + (tokOf (s.extract pos s.size)).2.1) (pos + (tokOf (s.extract pos s.size)).2.1) 0 k2 false _ (by omega) (by omega) ⟨rfl, rfl⟩ hr2 (fun h => by cases h) h
            refine ⟨⟨(tokOf (s.extract pos s.size)).1, s.extract pos (pos + (tokOf (s.extract pos s.size)).2.1), whereOf s pos⟩ :: l, by rw [e, List.append_assoc]; rfl, .inr ⟨w0, w3, ?_, wk, n, pos, k, ?_, hr, hp, rfl, ?_, ?_, ?_⟩⟩
            · simp only []; omega
            · rw [hrmf] at hgap; exact hgap
            · simp only []; omega
            · simp only []; rw [hxs]
            · simp only []; rw [hxs]; exact hc
          · rw [refGo_fault s f pos acc hp hbl h35 ht] at h
            exact absurd h ht
    · obtain rfl : pos = s.size := by omega
      rw [refGo_end s (f + 1) _ acc hp]
      exact ⟨[endTok (whereOf s s.size)], rfl, .inl ⟨rfl, rfl, n, rm, k, hgap, hr⟩⟩

theorem scan_chain (s : ByteArray) (hs : s.size ≤ 65536) (h : (scanOf s).2.1 = 0) : Chain s 0 (scanOf s).1 := by
  rw [scanOf_refOf] at h ⊢
  unfold refOf at h ⊢
  rw [if_neg (by omega)] at h ⊢
  obtain ⟨l, e, hc⟩ := ref_chain s s.size 0 0 0 0 false [] (by omega) (by omega) ⟨rfl, rfl⟩ rfl (fun h => by cases h) h
  rw [e]
  exact hc
end Go.Proofs.YtdpahcnenjnbhaaDoor
