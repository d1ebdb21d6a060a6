import Derived.Test.YtbkjminjkjnkpaaGreatDoorQDkWhole
/- Layer 5 (decks), plain: what is read is written, and read as the same. -/
namespace Go.Proofs.YtbkjminjkjnkpaaGreatDoor
open Go.RowKit Go.Lib

def nm (ns : List ByteArray) (k : Nat) : ByteArray := ns.getD k ⟨#[]⟩
/-- How many of which kind, told one behind the other behind some cards. -/
def Good (ns : List ByteArray) : List Nat → List (Nat × Nat) → Prop
  | _, [] => True
  | out, x :: rs => (1 ≤ x.1 ∧ x.1 ≤ 3) ∧ x.2 < ns.length ∧ findW ns (nm ns x.2) 0 = some x.2 ∧ TokOK 1 (nm ns x.2) ∧ x.2 ∉ out ∧ Good ns (out ++ List.replicate x.1 x.2) rs
def expand : List (Nat × Nat) → List Nat
  | [] => []
  | x :: rs => List.replicate x.1 x.2 ++ expand rs
def toksR (ns : List ByteArray) : List (Nat × Nat) → List (KT × Nat)
  | [] => []
  | x :: rs => ((2, decB x.1), 0) :: ((1, nm ns x.2), 0) :: toksR ns rs

theorem go_good (ns : List ByteArray) : ∀ (n : Nat) (l : List KT) (out a : List Nat) (rest : List KT), l.length ≤ n → (∀ t ∈ l, t.1 = 0 ∨ TokOK t.1 t.2) → goDeck ns l out = (0, a, rest) →
    ∃ rs, a = out ++ expand rs ∧ Good ns out rs ∧ 5 ≤ a.length ∧ a.length ≤ 40 ∧ ∀ t ∈ rest, t ∈ l
  | 0, l, out, a, rest, hl, _, h => by
    have : l = [] := List.eq_nil_of_length_eq_zero (by omega)
    subst this
    rw [goDeck.eq_def] at h
    cases h
  | n + 1, [], out, a, rest, hl, _, h => by
    rw [goDeck.eq_def] at h
    cases h
  | n + 1, t :: l, out, a, rest, hl, hok, h => by
    by_cases hk : t.1 = 2
    · by_cases hb : numK t < 1 ∨ 3 < numK t
      · rw [go_bad hk hb] at h; cases h
      · cases l with
        | nil =>
          rw [goDeck.eq_def] at h
          simp only [if_pos hk, if_neg hb] at h
          cases h
        | cons u l' =>
          rw [go_num hk hb] at h
          by_cases hz : (kindOf ns u out).1 = 0
          · rw [if_pos hz] at h
            simp only [List.length_cons] at hl
            obtain ⟨rs, h1, h2, h3, h4, h5⟩ := go_good ns n l' _ a rest (by omega) (fun t ht => hok t (List.mem_cons_of_mem _ (List.mem_cons_of_mem _ ht))) h
            have hu : u.1 = 1 ∧ findW ns u.2 0 = some (kindOf ns u out).2 ∧ (kindOf ns u out).2 ∉ out := by
              unfold kindOf at hz ⊢
              by_cases h1 : u.1 = 1
              · simp only [if_pos h1] at hz ⊢
                cases hf : findW ns u.2 0 with
                | none => rw [hf] at hz; cases hz
                | some k =>
                  rw [hf] at hz
                  simp only at hz ⊢
                  by_cases hm : k ∈ out
                  · rw [if_pos hm] at hz; cases hz
                  · rw [if_neg hm]; exact ⟨h1, rfl, hm⟩
              · rw [if_neg h1] at hz; cases hz
            have hg := findW_get ns u.2 0 _ hu.2.1
            have hgk : ns[(kindOf ns u out).2]? = some u.2 := by simpa using hg.1
            have hnm : nm ns (kindOf ns u out).2 = u.2 := by unfold nm; rw [List.getD_eq_getElem?_getD, hgk]; rfl
            have hto : TokOK 1 u.2 := by
              rcases hok u (List.mem_cons_of_mem _ List.mem_cons_self) with h0 | h0
              · omega
              · rw [← hu.1]; exact h0
            refine ⟨(numK t, (kindOf ns u out).2) :: rs, ?_, ⟨by simp only; omega, (List.getElem?_eq_some_iff.1 hgk).1, by simp only; rw [hnm]; exact hu.2.1, by simp only; rw [hnm]; exact hto, hu.2.2, h2⟩, h3, h4, fun t ht => List.mem_cons_of_mem _ (List.mem_cons_of_mem _ (h5 t ht))⟩
            rw [h1, List.append_assoc]
            rfl
          · rw [if_neg hz] at h
            have : (kindOf ns u out).1 = 0 := by injection h
            exact absurd this hz
    · rw [go_other hk] at h
      by_cases hx : t.2 = ⟨#[125]⟩
      · rw [if_pos hx] at h
        by_cases hs : out.length < 5 ∨ 40 < out.length
        · rw [if_pos hs] at h; cases h
        · rw [if_neg hs] at h
          cases h
          exact ⟨[], by simp [expand], trivial, by omega, by omega, fun t ht => List.mem_cons_of_mem _ ht⟩
      · rw [if_neg hx] at h; cases h

theorem go_again (ns : List ByteArray) : ∀ (rs : List (Nat × Nat)) (out : List Nat) (rest : List KT), Good ns out rs → 5 ≤ (out ++ expand rs).length → (out ++ expand rs).length ≤ 40 →
    goDeck ns ((toksR ns rs).map (·.1) ++ ((3, ⟨#[125]⟩) :: rest)) out = (0, out ++ expand rs, rest)
  | [], out, rest, _, h5, h40 => by
    simp only [expand, List.append_nil] at h5 h40 ⊢
    show goDeck ns ((3, ⟨#[125]⟩) :: rest) out = _
    rw [go_other (by decide), if_pos rfl, if_neg (by omega)]
  | x :: rs, out, rest, hg, h5, h40 => by
    obtain ⟨⟨h1, h3⟩, hl, hf, ht, hn, hg'⟩ := hg
    have hnum : numK (2, decB x.1) = x.1 := num_dec (by omega) (by omega)
    have hk : kindOf ns (1, nm ns x.2) out = (0, x.2) := by
      unfold kindOf
      rw [if_pos rfl, hf]
      simp only
      rw [if_neg hn]
    show goDeck ns ((2, decB x.1) :: (1, nm ns x.2) :: ((toksR ns rs).map (·.1) ++ ((3, ⟨#[125]⟩) :: rest))) out = _
    rw [go_num rfl (by rw [hnum]; omega), hk, if_pos rfl, hnum]
    have e : out ++ expand (x :: rs) = (out ++ List.replicate x.1 x.2) ++ expand rs := by simp [expand]
    rw [e] at h5 h40 ⊢
    exact go_again ns rs _ rest hg' h5 h40

theorem good_out {ns : List ByteArray} : ∀ {rs : List (Nat × Nat)} {out : List Nat} {k : Nat}, Good ns out rs → k ∈ out → k ∉ expand rs
  | [], _, _, _, _ => by simp [expand]
  | x :: rs, out, k, hg, hk => by
    obtain ⟨-, -, -, -, hn, hg'⟩ := hg
    simp only [expand, List.mem_append, List.mem_replicate, not_or]
    refine ⟨fun h => hn (h.2 ▸ hk), good_out hg' (List.mem_append_left _ hk)⟩
theorem good_count {ns : List ByteArray} : ∀ {rs : List (Nat × Nat)} {out : List Nat} (k : Nat), Good ns out rs → (expand rs).count k ≤ 3
  | [], _, _, _ => by simp [expand]
  | x :: rs, out, k, hg => by
    obtain ⟨⟨h1, h3⟩, -, -, -, hn, hg'⟩ := hg
    simp only [expand, List.count_append, List.count_replicate]
    by_cases hk : x.2 = k
    · have : k ∉ expand rs := good_out hg' (by simp [← hk]; omega)
      rw [List.count_eq_zero.2 this]
      simp [hk]
      omega
    · have := good_count (rs := rs) k hg'
      simp [hk]
      exact this
theorem good_mem {ns : List ByteArray} : ∀ {rs : List (Nat × Nat)} {out : List Nat} {k : Nat}, Good ns out rs → k ∈ expand rs → k < ns.length ∧ TokOK 1 (nm ns k)
  | [], _, _, _, hk => by simp [expand] at hk
  | x :: rs, out, k, hg, hk => by
    obtain ⟨-, hl, -, ht, -, hg'⟩ := hg
    simp only [expand, List.mem_append, List.mem_replicate] at hk
    rcases hk with ⟨-, rfl⟩ | hk
    · exact ⟨hl, ht⟩
    · exact good_mem hg' hk

theorem intsOf_app (a b : List Nat) : intsOf (a ++ b) = intsOf a ++ intsOf b := by simp [intsOf]
theorem intsOf_len (a : List Nat) : (intsOf a).length = a.length := by simp [intsOf]
theorem nameI_nat (ns : List ByteArray) (k : Nat) : nameI ns (k : Int) = nm ns k := rfl
theorem good_body {ns : List ByteArray} : ∀ {rs : List (Nat × Nat)} {out : List Nat}, Good ns out rs → bodyK ns (intsOf (expand rs)) = toksR ns rs
  | [], _, _ => rfl
  | x :: rs, out, hg => by
    obtain ⟨⟨h1, h3⟩, -, -, -, hn, hg'⟩ := hg
    have hx : expand (x :: rs) = List.replicate x.1 x.2 ++ expand rs := rfl
    obtain ⟨m, hm⟩ : ∃ m, x.1 = m + 1 := ⟨x.1 - 1, by omega⟩
    have hal : alikeN (intsOf (expand (x :: rs))) = x.1 := by
      refine alike_is ?_ (fun j hj => ?_) (fun y hy => ?_)
      · rw [intsOf_len, hx]; simp
      · rw [hx, intsOf_app]
        have e : ∀ j, j < x.1 → (intsOf (List.replicate x.1 x.2) ++ intsOf (expand rs))[j]? = some (x.2 : Int) := fun j hj => by
          rw [List.getElem?_append_left (by rw [intsOf_len]; simpa using hj)]
          simp [intsOf, hj]
        rw [e j hj, e 0 (by omega)]
      · rw [hx, intsOf_app] at hy ⊢
        rw [List.getElem?_append_right (by rw [intsOf_len]; simp)] at hy
        rw [List.getElem?_append_left (by rw [intsOf_len, List.length_replicate]; omega)]
        simp only [intsOf_len, List.length_replicate, Nat.sub_self] at hy
        have e0 : (intsOf (List.replicate x.1 x.2))[0]? = some (x.2 : Int) := by rw [hm]; simp [intsOf, List.replicate_succ]
        rw [e0]
        intro e
        cases e
        unfold intsOf at hy
        rw [List.getElem?_map] at hy
        cases hz : (expand rs)[0]? with
        | none => rw [hz] at hy; cases hy
        | some k =>
          rw [hz] at hy
          have h9 : (k : Int) = (x.2 : Int) := by simpa using hy
          have hk : k = x.2 := by omega
          subst hk
          exact good_out hg' (by rw [hm]; simp [List.replicate_succ]) (List.mem_of_getElem? hz)
    have hcons : intsOf (expand (x :: rs)) = (x.2 : Int) :: intsOf (List.replicate m x.2 ++ expand rs) := by
      rw [hx, hm, List.replicate_succ]; rfl
    have hb := bodyK_cons ns (x.2 : Int) (intsOf (List.replicate m x.2 ++ expand rs))
    rw [← hcons, hal] at hb
    have hd : (intsOf (expand (x :: rs))).drop x.1 = intsOf (expand rs) := by
      rw [hx, intsOf_app, List.drop_left' (by rw [intsOf_len]; simp)]
    rw [hb, hd, good_body hg']
    rfl

theorem one_good {ns : List ByteArray} {l : List KT} {a : List Nat} {rest : List KT} (hok : ∀ t ∈ l, t.1 = 0 ∨ TokOK t.1 t.2) (h : oneDeck ns l = (0, a, rest)) :
    ∃ rs, a = expand rs ∧ Good ns [] rs ∧ 5 ≤ a.length ∧ a.length ≤ 40 ∧ ∀ t ∈ rest, t ∈ l := by
  unfold oneDeck at h
  cases l with
  | nil => cases h
  | cons t l =>
    simp only at h
    by_cases h1 : t.2 = ⟨#[100, 101, 99, 107]⟩
    · rw [if_pos h1] at h
      cases l with
      | nil => cases h
      | cons u l =>
        simp only at h
        by_cases h2 : u.2 = ⟨#[123]⟩
        · rw [if_pos h2] at h
          obtain ⟨rs, e, g, a1, a2, a3⟩ := go_good ns _ l [] a rest (Nat.le_refl _) (fun t ht => hok t (List.mem_cons_of_mem _ (List.mem_cons_of_mem _ ht))) h
          exact ⟨rs, by simpa using e, g, a1, a2, fun t ht => List.mem_cons_of_mem _ (List.mem_cons_of_mem _ (a3 t ht))⟩
        · rw [if_neg h2] at h; cases h
    · rw [if_neg h1] at h; cases h
theorem one_again {ns : List ByteArray} {rs : List (Nat × Nat)} (hg : Good ns [] rs) (h5 : 5 ≤ (expand rs).length) (h40 : (expand rs).length ≤ 40) (rest : List KT) :
    oneDeck ns ((deckK ns (intsOf (expand rs))).map (·.1) ++ rest) = (0, expand rs, rest) := by
  unfold deckK
  rw [good_body hg]
  have e : (([((1, ⟨#[100, 101, 99, 107]⟩), 0), ((3, ⟨#[123]⟩), 0)] ++ toksR ns rs ++ [((3, ⟨#[125]⟩), 1)] : List (KT × Nat)).map (fun t => t.1)) ++ rest = ((1, ⟨#[100, 101, 99, 107]⟩) : KT) :: ((3, ⟨#[123]⟩) : KT) :: ((toksR ns rs).map (fun t => t.1) ++ (((3, ⟨#[125]⟩) : KT) :: rest)) := by simp
  rw [e]
  have := go_again ns rs [] rest hg (by simpa using h5) (by simpa using h40)
  simp only [List.nil_append] at this
  unfold oneDeck
  simp only [if_true]
  exact this
theorem good_tell {ns : List ByteArray} {rs : List (Nat × Nat)} (hg : Good ns [] rs) (h40 : (expand rs).length ≤ 40) : tellB ns (intsOf (expand rs)) = true := by
  refine tell_of (by rw [intsOf_len]; exact h40) fun x hx => ?_
  simp only [intsOf, List.mem_map] at hx
  obtain ⟨k, hk, rfl⟩ := hx
  obtain ⟨h1, h2⟩ := good_mem hg hk
  exact ⟨by omega, by omega, by rw [nameI_nat]; exact word_of_ok h2⟩
theorem toks_ok {ns : List ByteArray} : ∀ {rs : List (Nat × Nat)} {out : List Nat}, Good ns out rs → ∀ t ∈ toksR ns rs, TokOK t.1.1 t.1.2
  | [], _, _, t, ht => by simp [toksR] at ht
  | x :: rs, out, hg, t, ht => by
    obtain ⟨⟨h1, h3⟩, -, -, hw, -, hg'⟩ := hg
    simp only [toksR, List.mem_cons] at ht
    rcases ht with rfl | rfl | ht
    · exact ok_of_dec (by omega) (by omega)
    · exact hw
    · exact toks_ok hg' t ht
theorem deck_ok {ns : List ByteArray} {rs : List (Nat × Nat)} (hg : Good ns [] rs) : ∀ t ∈ deckK ns (intsOf (expand rs)), TokOK t.1.1 t.1.2 := by
  intro t ht
  unfold deckK at ht
  rw [good_body hg] at ht
  simp only [List.mem_append, List.mem_cons, List.not_mem_nil, or_false] at ht
  rcases ht with ((rfl | rfl) | ht) | rfl
  · exact ok_deck
  · exact ok_open
  · exact toks_ok hg t ht
  · exact ok_shut

/-- A deck as Read tells it. -/
structure Fine (ns : List ByteArray) (a : List Nat) : Prop where
  few : 5 ≤ a.length
  most : a.length ≤ 40
  count : ∀ k, a.count k ≤ 3
  in_ : ∀ k ∈ a, k < ns.length
/-- What Read tells of a text may be written, and is read as the same. -/
theorem read_back (ns : List ByteArray) (s : ByteArray) (ra rb : List Nat) (sp : Int × Int) (h : readOf ns s = ((0, sp), ra, rb)) :
    Fine ns ra ∧ Fine ns rb ∧ ∃ x, writeAns ns (intsOf ra) (intsOf rb) = (x, 0) ∧ readOf ns x = ((0, (0, 0)), ra, rb) ∧ x.size ≤ 10000 := by
  unfold readOf at h
  by_cases h0 : (scanOf s).2.1 = 0
  · rw [if_pos h0] at h
    obtain ⟨l, hl, hlo⟩ := kts_ok s (scan_size s h0) h0
    have hok : ∀ t ∈ ktsOf s, t.1 = 0 ∨ TokOK t.1 t.2 := by
      rw [hl]
      intro t ht
      rcases List.mem_append.1 ht with ht | ht
      · exact .inr (hlo t ht)
      · simp only [List.mem_singleton] at ht; subst ht; exact .inl rfl
    by_cases h1 : (twoDecks ns (ktsOf s)).1 = 0
    · rw [if_pos h1] at h
      simp only [Prod.mk.injEq] at h
      obtain ⟨-, hra, hrb⟩ := h
      unfold twoDecks at h1 hra hrb
      by_cases h2 : (oneDeck ns (ktsOf s)).1 = 0
      · rw [if_pos h2] at h1 hra hrb
        by_cases h3 : (oneDeck ns (oneDeck ns (ktsOf s)).2.2).1 = 0
        · rw [if_pos h3] at h1 hra hrb
          rcases hq1 : oneDeck ns (ktsOf s) with ⟨e1, a1, l1⟩
          rw [hq1] at h1 h2 h3 hra hrb
          simp only at h1 h2 h3 hra hrb
          rcases hq2 : oneDeck ns l1 with ⟨e2, a2, l2⟩
          rw [hq2] at h1 h3 hra hrb
          simp only at h1 h3 hra hrb
          subst h2 h3
          obtain ⟨rs1, x1, g1, f1, m1, s1⟩ := one_good hok hq1
          obtain ⟨rs2, x2, g2, f2, m2, s2⟩ := one_good (fun t ht => hok t (s1 t ht)) hq2
          have he : ra = a1 ∧ rb = a2 := by
            unfold ending at h1 hra hrb
            cases l2 with
            | nil => cases h1
            | cons t l3 =>
              simp only at h1 hra hrb
              by_cases hz : t.1 = 0
              · rw [if_pos hz] at hra hrb; exact ⟨hra.symm, hrb.symm⟩
              · rw [if_neg hz] at h1; cases h1
          obtain ⟨rfl, rfl⟩ := he
          subst x1 x2
          refine ⟨⟨f1, m1, fun k => good_count k g1, fun k hk => (good_mem g1 hk).1⟩, ⟨f2, m2, fun k => good_count k g2, fun k hk => (good_mem g2 hk).1⟩, ?_⟩
          have t1 := good_tell g1 m1
          have t2 := good_tell g2 m2
          have hsz : (joinK (deckK ns (intsOf (expand rs1)) ++ deckK ns (intsOf (expand rs2)))).size ≤ 10000 := by
            rw [joinK_app, size_app]
            have q1 := deck_len t1
            have q2 := deck_len t2
            unfold joinB at q1 q2
            rw [Array.length_toList] at q1 q2
            have q3 : (joinK (deckK ns (intsOf (expand rs1)))).size ≤ 4100 := q1
            have q4 : (joinK (deckK ns (intsOf (expand rs2)))).size ≤ 4100 := q2
            omega
          obtain ⟨sc0, sck⟩ := scan_joinK (deckK ns (intsOf (expand rs1)) ++ deckK ns (intsOf (expand rs2))) (fun t ht => (List.mem_append.1 ht).elim (deck_ok g1 t) (deck_ok g2 t)) (by omega)
          have hrd : readOf ns (joinK (deckK ns (intsOf (expand rs1)) ++ deckK ns (intsOf (expand rs2)))) = ((0, (0, 0)), expand rs1, expand rs2) := by
            have htw : twoDecks ns (ktsOf (joinK (deckK ns (intsOf (expand rs1)) ++ deckK ns (intsOf (expand rs2))))) = (0, expand rs1, expand rs2, [ktEnd]) := by
              rw [sck, List.map_append, List.append_assoc]
              unfold twoDecks
              rw [one_again g1 f1 m1]
              simp only [if_true]
              rw [one_again g2 f2 m2]
              simp only [if_true]
              rfl
            unfold readOf
            rw [if_pos sc0, htw]
            rfl
          refine ⟨_, ?_, hrd, hsz⟩
          rw [ans_read t1 t2 _ hrd, if_pos ⟨rfl, by simp [sameB], by simp [sameB]⟩]
        · rw [if_neg h3] at h1; exact absurd h1 h3
      · rw [if_neg h2] at h1; exact absurd h1 h2
    · rw [if_neg h1] at h
      simp only [Prod.mk.injEq] at h
      exact absurd h.1.1 h1
  · rw [if_neg h0] at h
    have : (scanOf s).2.1 = 0 := by
      have := congrArg (fun x => x.1.1) h
      exact this
    exact absurd this h0
/-- What Write writes is read as the same. -/
theorem write_back {ns : List ByteArray} {a b : List Int} {x : ByteArray} (h : writeAns ns a b = (x, 0)) : ∃ ra rb sp, readOf ns x = ((0, sp), ra, rb) ∧ intsOf ra = a ∧ intsOf rb = b ∧ x.size ≤ 10000 := by
  cases ha : tellB ns a with
  | false => rw [ans_tell_a ha] at h; cases h
  | true =>
    cases hb : tellB ns b with
    | false => rw [ans_tell_b hb] at h; cases h
    | true =>
      rw [ans_read ha hb _ rfl] at h
      by_cases hc : (readOf ns (joinK (deckK ns a ++ deckK ns b))).1.1 = 0 ∧ sameB (intsOf (readOf ns (joinK (deckK ns a ++ deckK ns b))).2.1) a = true ∧ sameB (intsOf (readOf ns (joinK (deckK ns a ++ deckK ns b))).2.2) b = true
      · rw [if_pos hc] at h
        cases h
        obtain ⟨c1, c2, c3⟩ := hc
        refine ⟨_, _, (readOf ns (joinK (deckK ns a ++ deckK ns b))).1.2, ?_, by simpa [sameB] using c2, by simpa [sameB] using c3, ?_⟩
        · rw [← c1]
        · rw [joinK_app, size_app]
          have q1 := deck_len ha
          have q2 := deck_len hb
          unfold joinB at q1 q2
          rw [Array.length_toList] at q1 q2
          have q3 : (joinK (deckK ns a)).size ≤ 4100 := q1
          have q4 : (joinK (deckK ns b)).size ≤ 4100 := q2
          omega
      · rw [if_neg hc] at h; cases h
theorem write_none {ns : List ByteArray} {a b : List Int} (h : (writeAns ns a b).2 ≠ 0) : (writeAns ns a b).1 = ⟨#[]⟩ := by
  unfold writeAns at h ⊢
  cases hw : writeOf ns a b with
  | none => rfl
  | some s => rw [hw] at h; exact absurd rfl h
end Go.Proofs.YtbkjminjkjnkpaaGreatDoor
