import Derived.Test.YtlbbabojejimpaaQTbLink
/- Plain: an attack is no less where more is Up; without auras it is a piece's own. -/
namespace Go.Proofs.Ytlbbabojejimpaa
open Go.RowKit Go.Lib

def bareN (p : Pc) : Int := min (max (p.ak + min (max p.bo (-99999)) 99999) 0) 99999
theorem bare_eq {p : Pc} (h : 0 ≤ p.ak ∧ p.ak ≤ 99999) : max (plusI p.ak p.bo) 0 = bareN p := by unfold plusI bd bareN; omega
theorem plusI_ge {a n : Int} (h : -99999 ≤ a ∧ a ≤ 99999) (hn : 0 ≤ n) : a ≤ plusI a n := by unfold plusI bd; omega
theorem plusI_bd (a n : Int) : -99999 ≤ plusI a n ∧ plusI a n ≤ 99999 := bd_le _
theorem plusI_mono {a b : Int} (n : Int) (h : a ≤ b) : plusI a n ≤ plusI b n := by unfold plusI bd; omega
theorem addA_bd {xs : List Cd} {ps : List Pc} {p : Pc} {id : Nat} {a : Int} (x : AA) (h : -99999 ≤ a ∧ a ≤ 99999) : a ≤ addA xs ps p id a x ∧ -99999 ≤ addA xs ps p id a x ∧ addA xs ps p id a x ≤ 99999 := by
  unfold addA
  split
  · split
    · exact ⟨plusI_ge h (by omega), plusI_bd _ _⟩
    · exact ⟨Int.le_refl _, h⟩
  · exact ⟨Int.le_refl _, h⟩
theorem foldA_bd {xs : List Cd} {ps : List Pc} {p : Pc} {id : Nat} : ∀ (l : List AA) (a : Int), -99999 ≤ a ∧ a ≤ 99999 → a ≤ l.foldl (addA xs ps p id) a ∧ l.foldl (addA xs ps p id) a ≤ 99999
  | [], a, h => ⟨Int.le_refl _, h.2⟩
  | x :: l, a, h => by
    have h1 := addA_bd (xs := xs) (ps := ps) (p := p) (id := id) x h
    have h2 := foldA_bd (xs := xs) (ps := ps) (p := p) (id := id) l _ h1.2
    exact ⟨Int.le_trans h1.1 h2.1, h2.2⟩
theorem attack_ge {xs : List Cd} {ps : List Pc} {p : Pc} {id : Nat} (h : 0 ≤ p.ak ∧ p.ak ≤ 99999) : bareN p ≤ attackA xs ps p id ∧ attackA xs ps p id ≤ 99999 ∧ (p.zn ≠ 2 → attackA xs ps p id = bareN p) := by
  rw [← bare_eq h]
  have h1 := foldA_bd (xs := xs) (ps := ps) (p := p) (id := id) (aurasA xs ps) _ (plusI_bd p.ak p.bo)
  have h2 := plusI_bd p.ak p.bo
  unfold attackA
  split
  · exact ⟨by omega, by omega, fun h => by omega⟩
  · exact ⟨by omega, by omega, fun _ => rfl⟩
theorem attack_down {xs : List Cd} {ps : List Pc} {p : Pc} {id : Nat} (h : 0 ≤ p.ak ∧ p.ak ≤ 99999) (hd : ∀ q ∈ ps, q.up = false) : attackA xs ps p id = bareN p := by
  have e : aurasA xs ps = [] := by
    unfold aurasA
    rw [List.flatMap_eq_nil_iff]
    intro i _
    cases hi : ps[i]? with
    | none => rfl
    | some q =>
      dsimp only
      unfold auraA
      rw [if_neg]
      rintro ⟨-, h, -⟩
      rw [hd q (List.mem_of_getElem? hi)] at h
      cases h
  rw [← bare_eq h]
  unfold attackA
  rw [e]
  split <;> rfl

/-- The same pieces, of which more are Up. -/
structure UpGe (ps qs : List Pc) : Prop where
  len : qs.length = ps.length
  at' : ∀ (i : Nat) (p : Pc), ps[i]? = some p → ∃ q, qs[i]? = some q ∧ bareP q = bareP p ∧ (p.up = true → q.up = true)
theorem ofB_ge {xs : List Cd} {p q : Pc} {who : Nat} {fr : Int} {s : Sl} {id : Int} (hb : bareP q = bareP p) (hu : p.up = true → q.up = true) (h : ofB xs p who fr s id = true) : ofB xs q who fr s id = true := by
  obtain ⟨df, ak, gd, ow, hs, zn, pl, up, lw, sc, us, sk, tu, bo⟩ := p
  obtain ⟨df', ak', gd', ow', hs', zn', pl', up', lw', sc', us', sk', tu', bo'⟩ := q
  simp only [bareP, Pc.mk.injEq, true_and] at hb
  obtain ⟨rfl, rfl, rfl, rfl, rfl, rfl, rfl, rfl, rfl, rfl, rfl, rfl, rfl⟩ := hb
  simp only [ofB, seenB, Bool.and_eq_true, Bool.or_eq_true] at *
  obtain ⟨h1, h2, h3⟩ := h
  refine ⟨h1, h2, ?_⟩
  rcases h3 with h3 | ⟨h3 | h3, h4⟩
  · exact .inl h3
  · exact .inr ⟨.inl (hu h3), h4⟩
  · exact .inr ⟨.inr h3, h4⟩
theorem addA_ge {xs : List Cd} {ps qs : List Pc} {p q : Pc} {id : Nat} (hg : UpGe ps qs) (hb : bareP q = bareP p) (hu : p.up = true → q.up = true) {a b : Int} (x : AA) (hab : a ≤ b) (hbb : -99999 ≤ b ∧ b ≤ 99999) : addA xs ps p id a x ≤ addA xs qs q id b x := by
  have h0 := (addA_bd (xs := xs) (ps := qs) (p := q) (id := id) x hbb).1
  unfold addA at *
  cases h : ps[x.1]? with
  | none => dsimp only; exact Int.le_trans hab h0
  | some g =>
    obtain ⟨g2, e2, e3, -⟩ := hg.at' _ _ h
    have ehs : g2.hs = g.hs := by
      have := congrArg Pc.hs e3
      exact this
    rw [e2] at h0 ⊢
    dsimp only at *
    rw [ehs] at h0 ⊢
    by_cases ho : ofB xs p g.hs x.1 x.2.2 id = true
    · rw [if_pos ho, if_pos (ofB_ge hb hu ho)]
      exact plusI_mono _ hab
    · rw [if_neg ho]
      exact Int.le_trans hab h0
theorem foldA_ge {xs : List Cd} {ps qs : List Pc} {p q : Pc} {id : Nat} (hg : UpGe ps qs) (hb : bareP q = bareP p) (hu : p.up = true → q.up = true) {l m : List AA} (hl : l.Sublist m) : ∀ (a b : Int), a ≤ b → -99999 ≤ b ∧ b ≤ 99999 → l.foldl (addA xs ps p id) a ≤ m.foldl (addA xs qs q id) b := by
  induction hl with
  | slnil => intro a b h _; exact h
  | cons x _ ih =>
    intro a b h hbb
    have h1 := addA_bd (xs := xs) (ps := qs) (p := q) (id := id) x hbb
    exact ih _ _ (Int.le_trans h h1.1) h1.2
  | cons_cons x _ ih =>
    intro a b h hbb
    exact ih _ _ (addA_ge hg hb hu x h hbb) (addA_bd (xs := xs) (ps := qs) (p := q) (id := id) x hbb).2
theorem flat_sub {α β : Type} {f g : α → List β} (h : ∀ x, (f x).Sublist (g x)) : ∀ l : List α, (l.flatMap f).Sublist (l.flatMap g)
  | [] => List.Sublist.slnil
  | x :: l => by
    rw [List.flatMap_cons, List.flatMap_cons]
    exact (h x).append (flat_sub h l)
theorem auras_ge {xs : List Cd} {ps qs : List Pc} (hg : UpGe ps qs) : (aurasA xs ps).Sublist (aurasA xs qs) := by
  unfold aurasA
  rw [hg.len]
  refine flat_sub (fun i => ?_) _
  cases h : ps[i]? with
  | none => exact List.nil_sublist _
  | some p =>
    obtain ⟨q, e2, e3, e4⟩ := hg.at' _ _ h
    rw [e2]
    dsimp only
    have ez : q.zn = p.zn := by have := congrArg Pc.zn e3; exact this
    have ed : q.df = p.df := by have := congrArg Pc.df e3; exact this
    unfold auraA
    by_cases hp : p.zn = 2 ∧ p.up = true ∧ 0 ≤ p.df
    · rw [if_pos hp, if_pos ⟨by rw [ez]; exact hp.1, e4 hp.2.1, by rw [ed]; exact hp.2.2⟩, ed]
      exact List.Sublist.refl _
    · rw [if_neg hp]
      exact List.nil_sublist _
/-- With one more Up no piece has less. -/
theorem attack_up {xs : List Cd} {ps qs : List Pc} {p q : Pc} {id : Nat} (hg : UpGe ps qs) (hp : ps[id]? = some p) (hq : qs[id]? = some q) : attackA xs ps p id ≤ attackA xs qs q id := by
  obtain ⟨q', e2, e3, e4⟩ := hg.at' _ _ hp
  rw [e2] at hq
  cases hq
  have ez : q.zn = p.zn := by have := congrArg Pc.zn e3; exact this
  have ea : q.ak = p.ak := by have := congrArg Pc.ak e3; exact this
  have eb : q.bo = p.bo := by have := congrArg Pc.bo e3; exact this
  unfold attackA
  rw [ez, ea, eb]
  split
  · have := foldA_ge (xs := xs) (id := id) hg e3 e4 (auras_ge (xs := xs) hg) _ _ (Int.le_refl (plusI p.ak p.bo)) (plusI_bd p.ak p.bo)
    omega
  · exact Int.le_refl _
