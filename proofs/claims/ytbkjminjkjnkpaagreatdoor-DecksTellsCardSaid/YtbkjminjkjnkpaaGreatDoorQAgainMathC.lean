import Derived.Test.YtbkjminjkjnkpaaGreatDoorQAgainMathB
/- Layer 1 (scan), plain: kinds and texts alone, from what is left of a text. -/
namespace Go.Proofs.YtbkjminjkjnkpaaGreatDoor
open Go.RowKit Go.Lib

abbrev KT := Nat × ByteArray
def ktEnd : KT := (0, ⟨#[]⟩)
def ktGo : Nat → ByteArray → Option (List KT)
  | 0, _ => some [ktEnd]
  | f + 1, u =>
    if 0 < u.size then
      if blankB (Utf8.decode u 0).1 then ktGo f (u.extract 1 u.size)
      else if (Utf8.decode u 0).1 = 35 then (if 0 ≤ (remOf u).2 then none else ktGo f (u.extract (remOf u).1 u.size))
      else if (tokOf u).2.2 = 0 then (ktGo f (u.extract (tokOf u).2.1 u.size)).map (((tokOf u).1, u.extract 0 (tokOf u).2.1) :: ·)
      else none
    else some [ktEnd]

def Tok.kt (t : Tok) : KT := (t.kind, t.text)
/-- An answer's kinds and texts are these, or it is a fault. -/
def Meets (acc : List Tok) (r : Toks) : Option (List KT) → Prop
  | some l => r.2.1 = 0 ∧ r.1.map Tok.kt = acc.map Tok.kt ++ l
  | none => r.2.1 ≠ 0 ∧ r.1 = []

theorem kt_ref (s : ByteArray) : ∀ f pos acc, pos ≤ s.size → Meets acc (refGo s f pos acc) (ktGo f (s.extract pos s.size))
  | 0, pos, acc, h => by simp [refGo, ktGo, Meets, Tok.kt, endTok, ktEnd]
  | f + 1, pos, acc, h => by
    have hsz : (s.extract pos s.size).size = s.size - pos := by simp
    have hd0 : Utf8.decode (s.extract pos s.size) 0 = Utf8.decode s pos := tail_decode s pos 0
    by_cases hp : pos < s.size
    · have hcut : ∀ k, (s.extract pos s.size).extract k (s.extract pos s.size).size = s.extract (pos + k) s.size := fun k => by
        rw [hsz, extract_extract s pos k s.size _ (by omega)]
        congr 1
        omega
      have hwf := decode_fits s pos hp
      unfold ktGo
      rw [hsz, if_pos (by omega), hd0, ← hsz, hcut, hcut, hcut]
      by_cases hbl : blankB (Utf8.decode s pos).1 = true
      · rw [if_pos hbl, refGo_blank s f pos acc hp hbl]
        exact kt_ref s f (pos + 1) acc (by omega)
      · have hbl' : blankB (Utf8.decode s pos).1 = false := by simpa using hbl
        rw [if_neg hbl]
        by_cases h35 : (Utf8.decode s pos).1 = 35
        · rw [if_pos h35]
          by_cases hr : 0 ≤ (remOf (s.extract pos s.size)).2
          · rw [if_pos hr, refGo_bad s f pos acc hp hbl' h35 hr]
            exact ⟨by simp, rfl⟩
          · rw [if_neg hr, refGo_remark s f pos acc hp hbl' h35 hr]
            have hle : ∀ g i, i ≤ (s.extract pos s.size).size → (remGo (s.extract pos s.size) g i).1 ≤ (s.extract pos s.size).size := by
              intro g
              induction g with
              | zero => intro i hi; exact hi
              | succ g ih =>
                intro i hi
                unfold remGo
                split
                · rename_i hc
                  split
                  · simp
                  · exact ih _ (decode_fits _ _ hc.1)
                · exact hi
            have := hle (s.extract pos s.size).size 0 (by omega)
            have h2 : (remOf (s.extract pos s.size)).1 ≤ (s.extract pos s.size).size := this
            exact kt_ref s f _ acc (by omega)
        · rw [if_neg h35]
          by_cases ht : (tokOf (s.extract pos s.size)).2.2 = 0
          · have hts := tokOf_size (s.extract pos s.size) (by omega)
            rw [if_pos ht, refGo_tok s f pos acc hp hbl' h35 ht]
            have ih := kt_ref s f (pos + (tokOf (s.extract pos s.size)).2.1) (acc ++ [⟨(tokOf (s.extract pos s.size)).1, s.extract pos (pos + (tokOf (s.extract pos s.size)).2.1), whereOf s pos⟩]) (by omega)
            rw [extract_extract s pos 0 s.size _ (by omega), Nat.add_zero]
            cases hk : ktGo f (s.extract (pos + (tokOf (s.extract pos s.size)).2.1) s.size) with
            | none => rw [hk] at ih; exact ih
            | some l =>
              rw [hk] at ih
              refine ⟨ih.1, ?_⟩
              rw [ih.2]
              simp [Tok.kt]
          · rw [if_neg ht, refGo_fault s f pos acc hp hbl' h35 ht]
            exact ⟨ht, rfl⟩
    · rw [refGo_end s (f + 1) pos acc hp]
      unfold ktGo
      rw [if_neg (by omega)]
      simp [Meets, Tok.kt, endTok, ktEnd]

def ktSize (l : List KT) : Nat := (l.map fun t => t.2.size).sum

/-- What is read: tokens that stand by themselves, and the end; no longer than the text. -/
theorem kt_ok : ∀ f (u : ByteArray) (l : List KT), ktGo f u = some l → ∃ l', l = l' ++ [ktEnd] ∧ (∀ t ∈ l', TokOK t.1 t.2) ∧ ktSize l' ≤ u.size ∧ l'.length ≤ u.size
  | 0, u, l, h => by
    simp [ktGo] at h
    exact ⟨[], by simp [← h], by simp, by simp [ktSize], by simp⟩
  | f + 1, u, l, h => by
    unfold ktGo at h
    split at h
    · rename_i h0
      split at h
      · obtain ⟨l', e, a, b, c⟩ := kt_ok f _ l h
        have : (u.extract 1 u.size).size = u.size - 1 := by simp
        exact ⟨l', e, a, by omega, by omega⟩
      · rename_i hbl
        split at h
        · split at h
          · cases h
          · obtain ⟨l', e, a, b, c⟩ := kt_ok f _ l h
            have : (u.extract (remOf u).1 u.size).size = u.size - (remOf u).1 := by simp
            exact ⟨l', e, a, by omega, by omega⟩
        · rename_i h35
          split at h
          · rename_i ht
            cases hk : ktGo f (u.extract (tokOf u).2.1 u.size) with
            | none => rw [hk] at h; cases h
            | some m =>
              rw [hk] at h
              simp only [Option.map_some, Option.some.injEq] at h
              obtain ⟨l', e, a, b, c⟩ := kt_ok f _ m hk
              have hpos := (tok_runs u h0 ht).1
              have hts := tokOf_size u h0
              have h1 : (u.extract (tokOf u).2.1 u.size).size = u.size - (tokOf u).2.1 := by simp
              have h2 : (u.extract 0 (tokOf u).2.1).size = (tokOf u).2.1 := by simp; omega
              refine ⟨((tokOf u).1, u.extract 0 (tokOf u).2.1) :: l', by rw [← h, e]; rfl, ?_, ?_, ?_⟩
              · intro t hm
                rcases List.mem_cons.1 hm with rfl | hm
                · refine ⟨u, h0, ?_, by rw [h2], by simpa using hbl, h35⟩
                  simp only []
                  rw [h2]
                  exact Prod.ext rfl (Prod.ext rfl ht)
                · exact a t hm
              · simp only [ktSize, List.map_cons, List.sum_cons] at b ⊢
                rw [h2]
                omega
              · simp only [List.length_cons]
                omega
          · cases h
    · simp at h
      exact ⟨[], by simp [← h], by simp, by simp [ktSize], by simp⟩

/-- The parts between tokens that the law takes. -/
def sepB (k : Nat) : ByteArray :=
  if k = 0 then ⟨#[32]⟩ else if k = 1 then ⟨#[10]⟩ else if k = 2 then ⟨#[9, 32]⟩ else if k = 3 then ⟨#[13, 10]⟩ else ⟨#[35, 32, 123, 32, 195, 169, 32, 48, 48, 55, 10]⟩
theorem sep_size (k : Nat) : 1 ≤ (sepB k).size ∧ (sepB k).size ≤ 11 := by
  unfold sepB
  repeat' split
  all_goals decide
theorem sep_part (k : Nat) (r : ByteArray) : Behind (sepB k ++ r) := by
  intro _
  rw [byte_left _ _ 0 (by have := sep_size k; omega)]
  unfold sepB partB
  repeat' split
  all_goals decide

theorem one_blank (b : UInt8) (r : ByteArray) (f : Nat) (hb : blankB (b.toNat : Int) = true) : ktGo (f + 1) (⟨#[b]⟩ ++ r) = ktGo f r := by
  have hs : ((⟨#[b]⟩ : ByteArray) ++ r).size = 1 + r.size := size_app _ _
  have hb0 : byteAt (⟨#[b]⟩ ++ r) 0 = b.toNat := byte_left ⟨#[b]⟩ r 0 (show 0 < 1 from Nat.zero_lt_one)
  have hlt : b.toNat < 128 := by simp [blankB] at hb; omega
  have hd := decode_low (⟨#[b]⟩ ++ r) 0 (by omega) (by omega)
  conv => lhs; unfold ktGo
  rw [if_pos (by omega), hd, hb0, if_pos hb]
  congr 1
  exact app_drop ⟨#[b]⟩ r
theorem app_assoc (a b c : ByteArray) : a ++ b ++ c = a ++ (b ++ c) := ByteArray.append_assoc

theorem remark_rem (r : ByteArray) : remOf (⟨#[35, 32, 123, 32, 195, 169, 32, 48, 48, 55, 10]⟩ ++ r) = (10, -1) := by
  have hs : ((⟨#[35, 32, 123, 32, 195, 169, 32, 48, 48, 55, 10]⟩ : ByteArray) ++ r).size = 11 + r.size := size_app _ _
  have hb : ∀ i, i < 11 → byteAt (⟨#[35, 32, 123, 32, 195, 169, 32, 48, 48, 55, 10]⟩ ++ r) i = byteAt ⟨#[35, 32, 123, 32, 195, 169, 32, 48, 48, 55, 10]⟩ i := fun i hi => byte_left _ r i hi
  generalize (⟨#[35, 32, 123, 32, 195, 169, 32, 48, 48, 55, 10]⟩ ++ r : ByteArray) = t at *
  have b0 : byteAt t 0 = 35 := hb 0 (by omega)
  have b1 : byteAt t 1 = 32 := hb 1 (by omega)
  have b2 : byteAt t 2 = 123 := hb 2 (by omega)
  have b3 : byteAt t 3 = 32 := hb 3 (by omega)
  have b4 : byteAt t 4 = 195 := hb 4 (by omega)
  have b5 : byteAt t 5 = 169 := hb 5 (by omega)
  have b6 : byteAt t 6 = 32 := hb 6 (by omega)
  have b7 : byteAt t 7 = 48 := hb 7 (by omega)
  have b8 : byteAt t 8 = 48 := hb 8 (by omega)
  have b9 : byteAt t 9 = 55 := hb 9 (by omega)
  have b10 : byteAt t 10 = 10 := hb 10 (by omega)
  have step : ∀ f i b, byteAt t i = b → i < t.size → b < 128 → b ≠ 10 → remGo t (f + 1) i = remGo t f (i + 1) := fun f i b h1 h2 h3 h4 => by
    have hd := decode_low t i h2 (by omega)
    rw [remGo_more t f i ⟨h2, by omega⟩ (by rw [hd, h1]; intro h; have := h.1; simp at this; omega), hd]
  have hd4 : Utf8.decode t 4 = (233, 2) := by
    rw [decode_at]
    have e0 : (t.get! 4).toNat = 195 := b4
    have e1 : (t.get! (4 + 1)).toNat = 169 := b5
    rw [e0, e1]
    unfold decodeN
    rw [if_neg (by omega), if_pos (by omega), if_pos (by omega)]
  have step4 : ∀ f, remGo t (f + 1) 4 = remGo t f 6 := fun f => by
    rw [remGo_more t f 4 ⟨by omega, by omega⟩ (by rw [hd4]; simp), hd4]
    exact congrArg (remGo t f) rfl
  unfold remOf
  obtain ⟨f, hf⟩ : ∃ f, t.size = f + 10 := ⟨t.size - 10, by omega⟩
  rw [hf, step (f + 9) 0 35 b0 (by omega) (by omega) (by omega), step (f + 8) 1 32 b1 (by omega) (by omega) (by omega), step (f + 7) 2 123 b2 (by omega) (by omega) (by omega), step (f + 6) 3 32 b3 (by omega) (by omega) (by omega),
    step4 (f + 5), step (f + 4) 6 32 b6 (by omega) (by omega) (by omega), step (f + 3) 7 48 b7 (by omega) (by omega) (by omega), step (f + 2) 8 48 b8 (by omega) (by omega) (by omega), step (f + 1) 9 55 b9 (by omega) (by omega) (by omega)]
  exact remGo_end t _ 10 (fun h => h.2 b10)

theorem hash_split : (⟨#[35, 32, 123, 32, 195, 169, 32, 48, 48, 55, 10]⟩ : ByteArray) = ⟨#[35, 32, 123, 32, 195, 169, 32, 48, 48, 55]⟩ ++ ⟨#[10]⟩ := by kernel_rfl
theorem kt_remark (r : ByteArray) (f : Nat) (hf : (⟨#[35, 32, 123, 32, 195, 169, 32, 48, 48, 55, 10]⟩ : ByteArray).size + r.size ≤ f) : ∃ f', r.size ≤ f' ∧ ktGo f (⟨#[35, 32, 123, 32, 195, 169, 32, 48, 48, 55, 10]⟩ ++ r) = ktGo f' r := by
  have h1 : (⟨#[35, 32, 123, 32, 195, 169, 32, 48, 48, 55, 10]⟩ : ByteArray).size = 11 := rfl
  have hr := remark_rem r
  have b0 : byteAt (⟨#[35, 32, 123, 32, 195, 169, 32, 48, 48, 55, 10]⟩ ++ r) 0 = 35 := byte_left _ r 0 (by decide)
  have hsp := hash_split
  have h2 : (⟨#[35, 32, 123, 32, 195, 169, 32, 48, 48, 55]⟩ : ByteArray).size = 10 := rfl
  generalize (⟨#[35, 32, 123, 32, 195, 169, 32, 48, 48, 55, 10]⟩ : ByteArray) = A at *
  generalize (⟨#[35, 32, 123, 32, 195, 169, 32, 48, 48, 55]⟩ : ByteArray) = B at *
  have hsz : (A ++ r).size = 11 + r.size := by rw [size_app, h1]
  obtain ⟨g, rfl⟩ : ∃ g, f = g + 2 := ⟨f - 2, by omega⟩
  refine ⟨g, by omega, ?_⟩
  have hd := decode_low (A ++ r) 0 (by omega) (by omega)
  have e : A ++ r = B ++ (⟨#[10]⟩ ++ r) := by rw [hsp, app_assoc]
  have e2 : (A ++ r).extract 10 (A ++ r).size = ⟨#[10]⟩ ++ r := by
    rw [e]
    have := app_drop B (⟨#[10]⟩ ++ r)
    rw [h2] at this
    exact this
  conv => lhs; unfold ktGo
  rw [if_pos (by omega), hd, b0, if_neg (by decide), if_pos rfl, hr]
  simp only []
  rw [if_neg (by decide), e2]
  exact one_blank 10 r g rfl

/-- A part between tokens is gone over. -/
theorem kt_sep (k : Nat) (r : ByteArray) (f : Nat) (hf : (sepB k ++ r).size ≤ f) : ∃ f', r.size ≤ f' ∧ ktGo f (sepB k ++ r) = ktGo f' r := by
  have hs : (sepB k ++ r).size = (sepB k).size + r.size := size_app _ _
  rw [hs] at hf
  revert hf
  unfold sepB
  repeat' split
  · intro hf
    have h1 : ((⟨#[32]⟩ : ByteArray)).size = 1 := rfl
    obtain ⟨g, rfl⟩ : ∃ g, f = g + 1 := ⟨f - 1, by omega⟩
    exact ⟨g, by omega, one_blank 32 r g rfl⟩
  · intro hf
    have h1 : ((⟨#[10]⟩ : ByteArray)).size = 1 := rfl
    obtain ⟨g, rfl⟩ : ∃ g, f = g + 1 := ⟨f - 1, by omega⟩
    exact ⟨g, by omega, one_blank 10 r g rfl⟩
  · intro hf
    have h1 : ((⟨#[9, 32]⟩ : ByteArray)).size = 2 := rfl
    obtain ⟨g, rfl⟩ : ∃ g, f = g + 2 := ⟨f - 2, by omega⟩
    refine ⟨g, by omega, ?_⟩
    rw [show (⟨#[9, 32]⟩ : ByteArray) = ⟨#[9]⟩ ++ ⟨#[32]⟩ from by kernel_rfl, app_assoc, one_blank 9 _ (g + 1) rfl, one_blank 32 r g rfl]
  · intro hf
    have h1 : ((⟨#[13, 10]⟩ : ByteArray)).size = 2 := rfl
    obtain ⟨g, rfl⟩ : ∃ g, f = g + 2 := ⟨f - 2, by omega⟩
    refine ⟨g, by omega, ?_⟩
    rw [show (⟨#[13, 10]⟩ : ByteArray) = ⟨#[13]⟩ ++ ⟨#[10]⟩ from by kernel_rfl, app_assoc, one_blank 13 _ (g + 1) rfl, one_blank 10 r g rfl]
  · intro hf
    exact kt_remark r f hf

/-- Tokens with parts between. -/
def joinL : List KT → (Nat → Nat) → Nat → ByteArray
  | [], _, _ => ⟨#[]⟩
  | t :: l, ks, i => t.2 ++ (sepB (ks i) ++ joinL l ks (i + 1))

theorem join_again (ks : Nat → Nat) : ∀ (l : List KT) (i f : Nat), (∀ t ∈ l, TokOK t.1 t.2) → (joinL (l ++ [ktEnd]) ks i).size ≤ f → ktGo f (joinL (l ++ [ktEnd]) ks i) = some (l ++ [ktEnd])
  | [], i, f, h, hf => by
    have e : joinL ([] ++ [ktEnd]) ks i = sepB (ks i) ++ ⟨#[]⟩ := by
      show (⟨#[]⟩ : ByteArray) ++ (sepB (ks i) ++ ⟨#[]⟩) = _
      exact ByteArray.empty_append
    rw [e] at hf ⊢
    obtain ⟨f', _, h2⟩ := kt_sep (ks i) ⟨#[]⟩ f hf
    rw [h2]
    cases f' with
    | zero => rfl
    | succ f' => unfold ktGo; rw [if_neg (by decide)]; rfl
  | t :: l, i, f, h, hf => by
    have e : joinL (t :: l ++ [ktEnd]) ks i = t.2 ++ (sepB (ks i) ++ joinL (l ++ [ktEnd]) ks (i + 1)) := rfl
    rw [e] at hf ⊢
    have hok := h t (List.mem_cons_self ..)
    have hp := tok_pos hok
    obtain ⟨ht, _, hbl, h35⟩ := tok_again hok (sepB (ks i) ++ joinL (l ++ [ktEnd]) ks (i + 1)) (sep_part _ _)
    have hs : (t.2 ++ (sepB (ks i) ++ joinL (l ++ [ktEnd]) ks (i + 1))).size = t.2.size + (sepB (ks i) ++ joinL (l ++ [ktEnd]) ks (i + 1)).size := size_app _ _
    obtain ⟨g, rfl⟩ : ∃ g, f = g + 1 := ⟨f - 1, by omega⟩
    obtain ⟨f', h1, h2⟩ := kt_sep (ks i) (joinL (l ++ [ktEnd]) ks (i + 1)) g (by omega)
    conv => lhs; unfold ktGo
    rw [if_pos (by omega), if_neg (by rw [hbl]; simp), if_neg h35, ht]
    simp only [if_true]
    rw [app_drop, app_take, h2, join_again ks l (i + 1) f' (fun t ht => h t (List.mem_cons_of_mem _ ht)) h1]
    rfl

theorem join_size (ks : Nat → Nat) : ∀ (l : List KT) (i : Nat), (joinL l ks i).size ≤ ktSize l + 11 * l.length
  | [], i => Nat.zero_le _
  | t :: l, i => by
    have h1 := join_size ks l (i + 1)
    have h2 := (sep_size (ks i)).2
    show (t.2 ++ (sepB (ks i) ++ joinL l ks (i + 1))).size ≤ _
    rw [size_app, size_app]
    simp only [ktSize, List.map_cons, List.sum_cons, List.length_cons] at h1 ⊢
    omega

/-- THE LAW's OWN: tokens that are read, parted anew, are read as the same. -/
theorem again (s : ByteArray) (hs : s.size ≤ 3000) (h0 : (scanOf s).2.1 = 0) (ks : Nat → Nat) :
    (joinL ((scanOf s).1.map Tok.kt) ks 0).size ≤ 65536 ∧ (scanOf (joinL ((scanOf s).1.map Tok.kt) ks 0)).2.1 = 0 ∧ (scanOf (joinL ((scanOf s).1.map Tok.kt) ks 0)).1.map Tok.kt = (scanOf s).1.map Tok.kt := by
  have e1 : scanOf s = refGo s s.size 0 [] := by rw [scanOf_refOf]; unfold refOf; rw [if_neg (by omega)]
  have hall : s.extract 0 s.size = s := ByteArray.extract_zero_size
  have hm := kt_ref s s.size 0 [] (by omega)
  rw [hall, ← e1] at hm
  cases hk : ktGo s.size s with
  | none => rw [hk] at hm; exact absurd h0 hm.1
  | some l =>
    rw [hk] at hm
    have hl : (scanOf s).1.map Tok.kt = l := by simpa using hm.2
    obtain ⟨l', e, hok, hsz, hlen⟩ := kt_ok _ _ _ hk
    rw [hl, e]
    have hj : (joinL (l' ++ [ktEnd]) ks 0).size ≤ 65536 := by
      have := join_size ks (l' ++ [ktEnd]) 0
      simp only [ktSize, List.map_append, List.sum_append, List.length_append, List.map_cons, List.map_nil, List.sum_cons, List.sum_nil, List.length_cons, List.length_nil] at this hsz
      have he : ktEnd.2.size = 0 := rfl
      omega
    refine ⟨hj, ?_⟩
    have hr := join_again ks l' 0 (joinL (l' ++ [ktEnd]) ks 0).size hok (Nat.le_refl _)
    generalize joinL (l' ++ [ktEnd]) ks 0 = J at *
    have e2 : scanOf J = refGo J J.size 0 [] := by rw [scanOf_refOf]; unfold refOf; rw [if_neg (by omega)]
    have hm2 := kt_ref J J.size 0 [] (by omega)
    rw [show J.extract 0 J.size = J from ByteArray.extract_zero_size, ← e2, hr] at hm2
    exact ⟨hm2.1, by simpa using hm2.2⟩
end Go.Proofs.YtbkjminjkjnkpaaGreatDoor
