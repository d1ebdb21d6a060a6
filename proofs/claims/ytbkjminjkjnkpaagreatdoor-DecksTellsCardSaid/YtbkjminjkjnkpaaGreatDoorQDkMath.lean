import Derived.Test.YtbkjminjkjnkpaaGreatDoorQToksGood
import Derived.Test.YtbkjminjkjnkpaaGreatDoorQAgainMathC
import Derived.Test.YtbkjminjkjnkpaaGreatDoorQScan
/- Layer 5 (decks), plain: two decks out of kinds and texts of tokens, one behind the other, or the first fault. -/
namespace Go.Proofs.YtbkjminjkjnkpaaGreatDoor
open Go.RowKit Go.Lib

def numK (t : KT) : Nat := valOf t.2.data.toList

/-- A deck's cards, from a token on: an error (0: none), the places so far, and the tokens from the one on at which it ends. -/
def goDeck (ns : List ByteArray) : List KT → List Nat → Nat × List Nat × List KT
  | [], out => (5, out, [])
  | t :: l, out =>
    if t.1 = 2 then
      if numK t < 1 ∨ 3 < numK t then (3, out, t :: l)
      else match l with
        | [] => (5, out, [])
        | u :: l' =>
          if u.1 = 1 then
            match findW ns u.2 0 with
            | none => (8, out, u :: l')
            | some k => if k ∈ out then (7, out, u :: l') else goDeck ns l' (out ++ List.replicate (numK t) k)
          else (5, out, u :: l')
    else if t.2 = ⟨#[125]⟩ then (if out.length < 5 ∨ 40 < out.length then (9, out, t :: l) else (0, out, l))
    else (5, out, t :: l)
/-- A deck. -/
def oneDeck (ns : List ByteArray) : List KT → Nat × List Nat × List KT
  | [] => (5, [], [])
  | t :: l => if t.2 = ⟨#[100, 101, 99, 107]⟩ then (match l with
      | [] => (5, [], [])
      | u :: l' => if u.2 = ⟨#[123]⟩ then goDeck ns l' [] else (5, [], u :: l'))
    else (5, [], t :: l)
/-- Behind two decks. -/
def ending (a b : List Nat) : List KT → Nat × List Nat × List Nat × List KT
  | [] => (5, [], [], [])
  | t :: l => if t.1 = 0 then (0, a, b, t :: l) else (5, [], [], t :: l)
def twoDecks (ns : List ByteArray) (l : List KT) : Nat × List Nat × List Nat × List KT :=
  if (oneDeck ns l).1 = 0 then
    (if (oneDeck ns (oneDeck ns l).2.2).1 = 0 then ending (oneDeck ns l).2.1 (oneDeck ns (oneDeck ns l).2.2).2.1 (oneDeck ns (oneDeck ns l).2.2).2.2
     else ((oneDeck ns (oneDeck ns l).2.2).1, [], [], (oneDeck ns (oneDeck ns l).2.2).2.2))
  else ((oneDeck ns l).1, [], [], (oneDeck ns l).2.2)
def ktsOf (s : ByteArray) : List KT := (scanOf s).1.map Tok.kt
/-- What a text's decks are: a fault (its number, its spot), the decks. -/
def readOf (ns : List ByteArray) (s : ByteArray) : (Nat × (Int × Int)) × List Nat × List Nat :=
  if (scanOf s).2.1 = 0 then
    (if (twoDecks ns (ktsOf s)).1 = 0 then ((0, (0, 0)), (twoDecks ns (ktsOf s)).2.1, (twoDecks ns (ktsOf s)).2.2.1)
     else (((twoDecks ns (ktsOf s)).1, (tk (scanOf s).1 ((scanOf s).1.length - (twoDecks ns (ktsOf s)).2.2.2.length)).spot), [], []))
  else ((scanOf s).2, [], [])

/-! ### texts of tokens -/
def joinK : List (KT × Nat) → ByteArray
  | [] => ⟨#[]⟩
  | t :: l => t.1.2 ++ (sepB t.2 ++ joinK l)
theorem joinK_again : ∀ (l : List (KT × Nat)) (f : Nat), (∀ t ∈ l, TokOK t.1.1 t.1.2) → (joinK l).size ≤ f → ktGo f (joinK l) = some (l.map (·.1) ++ [ktEnd])
  | [], f, h, hf => by
    cases f with
    | zero => rfl
    | succ f => unfold ktGo; rw [if_neg (by decide)]; rfl
  | t :: l, f, h, hf => by
    have e : joinK (t :: l) = t.1.2 ++ (sepB t.2 ++ joinK l) := rfl
    rw [e] at hf ⊢
    have hok := h t (List.mem_cons_self ..)
    have hp := tok_pos hok
    obtain ⟨ht, _, hbl, h35⟩ := tok_again hok (sepB t.2 ++ joinK l) (sep_part _ _)
    have hs : (t.1.2 ++ (sepB t.2 ++ joinK l)).size = t.1.2.size + (sepB t.2 ++ joinK l).size := size_app _ _
    obtain ⟨g, rfl⟩ : ∃ g, f = g + 1 := ⟨f - 1, by omega⟩
    obtain ⟨f', h1, h2⟩ := kt_sep t.2 (joinK l) g (by omega)
    conv => lhs; unfold ktGo
    rw [if_pos (by omega), if_neg (by rw [hbl]; simp), if_neg h35, ht]
    simp only [if_true]
    rw [app_drop, app_take, h2, joinK_again l f' (fun t ht => h t (List.mem_cons_of_mem _ ht)) h1]
    rfl
theorem scan_joinK (l : List (KT × Nat)) (h : ∀ t ∈ l, TokOK t.1.1 t.1.2) (hs : (joinK l).size ≤ 65536) : (scanOf (joinK l)).2.1 = 0 ∧ ktsOf (joinK l) = l.map (·.1) ++ [ktEnd] := by
  have hr := joinK_again l (joinK l).size h (Nat.le_refl _)
  unfold ktsOf
  generalize joinK l = J at *
  have e2 : scanOf J = refGo J J.size 0 [] := by rw [scanOf_refOf]; unfold refOf; rw [if_neg (by omega)]
  have hm2 := kt_ref J J.size 0 [] (by omega)
  rw [show J.extract 0 J.size = J from ByteArray.extract_zero_size, ← e2, hr] at hm2
  exact ⟨hm2.1, by simpa using hm2.2⟩
/-- What a scanner hands out: tokens that stand by themselves, then the end. -/
theorem kts_ok (s : ByteArray) (hs : s.size ≤ 65536) (h0 : (scanOf s).2.1 = 0) : ∃ l, ktsOf s = l ++ [ktEnd] ∧ (∀ t ∈ l, TokOK t.1 t.2) := by
  have e1 : scanOf s = refGo s s.size 0 [] := by rw [scanOf_refOf]; unfold refOf; rw [if_neg (by omega)]
  have hm := kt_ref s s.size 0 [] (by omega)
  rw [show s.extract 0 s.size = s from ByteArray.extract_zero_size, ← e1] at hm
  unfold ktsOf
  cases hk : ktGo s.size s with
  | none => rw [hk] at hm; exact absurd h0 hm.1
  | some l =>
    rw [hk] at hm
    obtain ⟨l', e, hok, -, -⟩ := kt_ok _ _ _ hk
    exact ⟨l', by rw [← e]; simpa using hm.2, hok⟩

/-! ### words and numbers by themselves -/
theorem part_let : letB 32 = false ∧ letB 9 = false ∧ letB 13 = false ∧ letB 10 = false ∧ letB 35 = false := by
  refine ⟨?_, ?_, ?_, ?_, ?_⟩ <;> kernel_rfl
theorem ok_of_word {x : ByteArray} (h : wordB x = true) : TokOK 1 x := by
  unfold wordB at h
  simp only [Bool.and_eq_true, decide_eq_true_eq] at h
  obtain ⟨⟨h1, h2⟩, h3⟩ := h
  have h0 : 0 < x.size := by omega
  have hst : wStop true (Utf8.decode x 0).1 = false := by
    cases hs : wStop true (Utf8.decode x 0).1 with
    | false => rfl
    | true =>
      exfalso
      have : wordOf x = (0, 0) := by unfold wordOf; exact wordGo_stop x _ 0 0 0 0 hs
      rw [this] at h1
      exact absurd h1 (by decide)
  have hl : letB (Utf8.decode x 0).1 = true := by simpa [wStop] using hst
  refine ⟨x, h0, ?_, by rw [ByteArray.extract_zero_size], ?_, fun e => ?_⟩
  · unfold tokOf
    rw [if_pos h1, if_neg (by omega), h2]
  · cases hb : blankB (Utf8.decode x 0).1 with
    | false => rfl
    | true =>
      exfalso
      simp only [blankB, Bool.or_eq_true, decide_eq_true_eq] at hb
      obtain ⟨a, b, c, d, -⟩ := part_let
      rcases hb with ((hb | hb) | hb) | hb <;> rw [hb] at hl <;> simp_all
  · rw [e] at hl
    have := part_let.2.2.2.2
    rw [show ((35 : Nat) : Int) = 35 from rfl] at hl
    rw [this] at hl
    cases hl
theorem tok_self {k : Nat} {x : ByteArray} (h : TokOK k x) : tokOf x = (k, x.size, 0) := by
  have := (tok_again h ⟨#[]⟩ (fun h => absurd h (by decide))).1
  have e : x ++ (⟨#[]⟩ : ByteArray) = x := ByteArray.append_empty
  rw [e] at this
  exact this
theorem word_of_ok {x : ByteArray} (h : TokOK 1 x) : wordB x = true := by
  have ht := tok_self h
  unfold tokOf at ht
  unfold wordB
  by_cases c1 : 0 < (wordOf x).1
  · rw [if_pos c1] at ht
    by_cases c2 : 24 < (wordOf x).2
    · rw [if_pos c2] at ht; simp at ht
    · rw [if_neg c2] at ht
      simp only [Prod.mk.injEq] at ht
      simp only [Bool.and_eq_true, decide_eq_true_eq]
      omega
  · rw [if_neg c1] at ht
    repeat' split at ht
    all_goals simp at ht
theorem decode_wd (s : ByteArray) (pos : Nat) : (Utf8.decode s pos).2 ≤ 4 := by
  rw [decode_at]
  unfold decodeN
  repeat' split
  all_goals simp_all
theorem wordGo_sz (s : ByteArray) : ∀ f pos seen size runes, pos ≤ 4 * seen → size ≤ 4 * runes → (wordGo s f pos seen size runes).1 ≤ 4 * (wordGo s f pos seen size runes).2
  | 0, pos, seen, size, runes, h1, h2 => h2
  | f + 1, pos, seen, size, runes, h1, h2 => by
    have hw := decode_wd s pos
    unfold wordGo
    split
    · split
      · exact h2
      · exact wordGo_sz s f _ _ _ _ (by omega) (by split <;> omega)
    · exact h2
theorem word_size {x : ByteArray} (h : wordB x = true) : 0 < x.size ∧ x.size ≤ 96 := by
  unfold wordB at h
  simp only [Bool.and_eq_true, decide_eq_true_eq] at h
  have := wordGo_sz x x.size 0 0 0 0 (by omega) (by omega)
  unfold wordOf at h
  omega

/-- The numeral of a number below 100. -/
def decB (n : Nat) : ByteArray := ⟨(Lib.decDigits n).toArray⟩
theorem dec_ok : ∀ n : Fin 41, 0 < n.val → tokOf (decB n.val) = (2, (decB n.val).size, 0) ∧ blankB (Utf8.decode (decB n.val) 0).1 = false ∧ (Utf8.decode (decB n.val) 0).1 ≠ 35 ∧ 0 < (decB n.val).size ∧ (decB n.val).size ≤ 2 ∧ numK (2, decB n.val) = n.val := by
  decide +kernel
theorem ok_of_dec {n : Nat} (h0 : 0 < n) (h : n ≤ 40) : TokOK 2 (decB n) := by
  obtain ⟨a, b, c, d, -, -⟩ := dec_ok ⟨n, by omega⟩ h0
  exact ⟨decB n, d, a, by rw [ByteArray.extract_zero_size], b, c⟩
theorem num_dec {n : Nat} (h0 : 0 < n) (h : n ≤ 40) : numK (2, decB n) = n := (dec_ok ⟨n, by omega⟩ h0).2.2.2.2.2
theorem dec_size {n : Nat} (h0 : 0 < n) (h : n ≤ 40) : 0 < (decB n).size ∧ (decB n).size ≤ 2 := ⟨(dec_ok ⟨n, by omega⟩ h0).2.2.2.1, (dec_ok ⟨n, by omega⟩ h0).2.2.2.2.1⟩
theorem ok_open : TokOK 3 ⟨#[123]⟩ := ⟨⟨#[123]⟩, by decide, by kernel_rfl, by kernel_rfl, by kernel_rfl, by decide +kernel⟩
theorem ok_shut : TokOK 3 ⟨#[125]⟩ := ⟨⟨#[125]⟩, by decide, by kernel_rfl, by kernel_rfl, by kernel_rfl, by decide +kernel⟩
theorem ok_deck : TokOK 1 ⟨#[100, 101, 99, 107]⟩ := ⟨⟨#[100, 101, 99, 107]⟩, by decide, by kernel_rfl, by kernel_rfl, by kernel_rfl, by decide +kernel⟩
end Go.Proofs.YtbkjminjkjnkpaaGreatDoor
