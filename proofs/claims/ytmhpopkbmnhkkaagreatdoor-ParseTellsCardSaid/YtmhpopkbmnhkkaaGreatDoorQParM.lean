import Derived.Test.YtmhpopkbmnhkkaaGreatDoorQParStp
/- Layer 2 (parse): what begins; many, one behind the other: what every kind of them shares. -/
namespace Go.Proofs.YtmhpopkbmnhkkaaGreatDoor
open Go.RowKit Go.Lib

theorem contains_inW (ws : List ByteArray) (x : ByteArray) : Lib.containsS ws x = (findW ws x 0).isSome := by
  unfold Lib.containsS Lib.idxOfS
  rw [findW_idx]
  cases findW ws x 0 with
  | none => rfl
  | some k => simp

/-- A function that tells words, in memory. -/
def TellsAt (W : World) (R : Nat) (a : Nat) (ws : List ByteArray) : Prop := ∃ v, W.heap[a]? = some (.cells #[v] 66 (0, 0)) ∧ a ≠ R ∧ WordsAt W R v ws
theorem TellsAt.kept {w w' : World} {R a : Nat} {ws : List ByteArray} (h : TellsAt w R a ws) (k : Kept R w w') : TellsAt w' R a ws := by
  obtain ⟨v, h1, h2, h3⟩ := h
  exact ⟨v, k.heap h2 h1, h2, h3.kept k⟩
def OneWordEnds (R : Nat) (ws : List ByteArray) (w : World) (e : Ending) (w' : World) : Prop := ∃ a, e = .returned (.func (.func 61) #[] #[.pointer (some ⟨a, 0, none⟩)]) ∧ TellsAt w' R a ws ∧ Below w.heap.size w w'
set_option maxRecDepth 100000 in
theorem oneWord_any (R : Nat) (w : World) (v : Value) (ws : List ByteArray) (hv : WordsAt w R v ws) (hR : R < w.heap.size) :
    Calls Tryz.prog 30 #[v] w (OneWordEnds R ws w) := by
  have hb : Below w.heap.size w (w.alloc (.cells #[v] 66)) := (Below.refl _ _).alloc (Nat.le_refl _) _
  have hk := hv.kept (Kept.of_below hb)
  obtain ⟨b, c, rfl, -, -⟩ := hv
  have HH := Lib.hid (And.intro hk hb)
  clear hk hb
  go_enter Tryz.func30, Tryz.ntmps30
  go_wp2
  go_ret
  exact ⟨w.heap.size, rfl, ⟨_, heap_alloc_new _ _, by omega, HH.out.1⟩, HH.out.2⟩

set_option maxHeartbeats 1000000 in
set_option maxRecDepth 100000 in
theorem tells_word (R a : Nat) (w : World) (ws : List ByteArray) (hw : ws.length ≤ 200) (hv : TellsAt w R a ws) (k : Nat) (tx : ByteArray) (l c : Int) :
    Calls Tryz.prog 61 #[.agg #[.int .u8 k, .string tx, .int .i64 l, .int .i64 c], .pointer (some ⟨a, 0, none⟩)] w fun e w' => e = .returned (.bool (inW ws ⟨k, tx, (l, c)⟩)) ∧ Below w.heap.size w w' := by
  obtain ⟨v, ha, -, b, cp, rfl, -, hc⟩ := hv
  have ca : w.cell? ⟨a, 0, none⟩ = some (.slice (some ⟨b, 0, none⟩) ws.length cp) := by rw [cell_blk ha]; rfl
  have hlt := heap_lt ha
  have hi : Hid (∀ W, Below w.heap.size w W → Calls Tryz.prog 62 #[.slice (some ⟨b, 0, none⟩) ws.length cp, .string tx] W fun e w' => e = .returned (.bool (inW ws ⟨k, tx, (l, c)⟩)) ∧ w' = W) := fun W bw => by
    have := Tryz.slices_Contains_string b 0 ws.length cp ws tx W (Nat.le_refl _) (by omega) (fun j hj => by rw [Nat.zero_add]; exact cell_later bw (hc j hj))
    rw [List.take_length, contains_inW] at this
    exact this
  clear ha hc hw
  go_enter Tryz.func61, Tryz.ntmps61
  go_wp2_with fail
  refine (hi.out _ (by repeat (first | (with_reducible exact Below.refl _ _) | (with_reducible assumption) | ((with_reducible refine Below.setCell ?_ ?_ _); rotate_left; focus (simp; done)) | ((with_reducible refine Below.alloc ?_ ?_ _); rotate_left; focus (simp; done)) | (with_reducible refine Below.drew ?_)))).mono ?_
  rintro e w1 ⟨rfl, rfl⟩
  go_wp2
  go_ret
  exact ⟨rfl, (by repeat (first | (with_reducible exact Below.refl _ _) | (with_reducible assumption) | ((with_reducible refine Below.setCell ?_ ?_ _); rotate_left; focus (simp; done)) | ((with_reducible refine Below.alloc ?_ ?_ _); rotate_left; focus (simp; done)) | (with_reducible refine Below.drew ?_)))⟩

theorem inW_end (ws : List ByteArray) (h : ∀ x ∈ ws, x ≠ ⟨#[]⟩) (l c : Int) : inW ws ⟨0, ⟨#[]⟩, (l, c)⟩ = false := by
  unfold inW
  cases hf : findW ws ⟨#[]⟩ 0 with
  | none => rfl
  | some k => exact absurd rfl (h _ (findW_lt _ _ _ _ hf).2.2)

set_option maxHeartbeats 1000000 in
set_option maxRecDepth 100000 in
theorem beginsExpr_any (w : World) (k : Nat) (tx : ByteArray) (l c : Int) :
    Calls Tryz.prog 41 #[.agg #[.int .u8 k, .string tx, .int .i64 l, .int .i64 c]] w fun e w' => e = .returned (.bool (beginsB ⟨k, tx, (l, c)⟩)) ∧ Below w.heap.size w w' := by
  by_cases h1 : tx = ⟨#[108, 105, 102, 101]⟩
  · have HR : Hid (beginsB ⟨k, tx, (l, c)⟩ = true) := by subst h1; simp [beginsB, inW, findW, Hid]
    subst h1
    go_enter Tryz.func41, Tryz.ntmps41
    go_wp2
    go_ret
    exact ⟨ret_bool (by rw [HR.out]), (by repeat (first | (with_reducible exact Below.refl _ _) | (with_reducible assumption) | ((with_reducible refine Below.setCell ?_ ?_ _); rotate_left; focus (simp; done)) | ((with_reducible refine Below.alloc ?_ ?_ _); rotate_left; focus (simp; done)) | (with_reducible refine Below.drew ?_)))⟩
  by_cases h2 : tx = ⟨#[99, 111, 117, 110, 116]⟩
  · have HR : Hid (beginsB ⟨k, tx, (l, c)⟩ = true) := by subst h2; unfold Hid beginsB; rw [show inW [⟨#[108, 105, 102, 101]⟩, ⟨#[99, 111, 117, 110, 116]⟩, ⟨#[112, 111, 119, 101, 114]⟩, ⟨#[40]⟩] ⟨k, ⟨#[99, 111, 117, 110, 116]⟩, (l, c)⟩ = true from by rfl]; rfl
    subst h2
    go_enter Tryz.func41, Tryz.ntmps41
    go_wp2
    go_ret
    exact ⟨ret_bool (by rw [HR.out]), (by repeat (first | (with_reducible exact Below.refl _ _) | (with_reducible assumption) | ((with_reducible refine Below.setCell ?_ ?_ _); rotate_left; focus (simp; done)) | ((with_reducible refine Below.alloc ?_ ?_ _); rotate_left; focus (simp; done)) | (with_reducible refine Below.drew ?_)))⟩
  by_cases h3 : tx = ⟨#[112, 111, 119, 101, 114]⟩
  · have HR : Hid (beginsB ⟨k, tx, (l, c)⟩ = true) := by subst h3; unfold Hid beginsB; rw [show inW [⟨#[108, 105, 102, 101]⟩, ⟨#[99, 111, 117, 110, 116]⟩, ⟨#[112, 111, 119, 101, 114]⟩, ⟨#[40]⟩] ⟨k, ⟨#[112, 111, 119, 101, 114]⟩, (l, c)⟩ = true from by rfl]; rfl
    subst h3
    go_enter Tryz.func41, Tryz.ntmps41
    go_wp2
    go_ret
    exact ⟨ret_bool (by rw [HR.out]), (by repeat (first | (with_reducible exact Below.refl _ _) | (with_reducible assumption) | ((with_reducible refine Below.setCell ?_ ?_ _); rotate_left; focus (simp; done)) | ((with_reducible refine Below.alloc ?_ ?_ _); rotate_left; focus (simp; done)) | (with_reducible refine Below.drew ?_)))⟩
  by_cases h4 : tx = ⟨#[40]⟩
  · have HR : Hid (beginsB ⟨k, tx, (l, c)⟩ = true) := by subst h4; unfold Hid beginsB; rw [show inW [⟨#[108, 105, 102, 101]⟩, ⟨#[99, 111, 117, 110, 116]⟩, ⟨#[112, 111, 119, 101, 114]⟩, ⟨#[40]⟩] ⟨k, ⟨#[40]⟩, (l, c)⟩ = true from by rfl]; rfl
    subst h4
    go_enter Tryz.func41, Tryz.ntmps41
    go_wp2
    go_ret
    exact ⟨ret_bool (by rw [HR.out]), (by repeat (first | (with_reducible exact Below.refl _ _) | (with_reducible assumption) | ((with_reducible refine Below.setCell ?_ ?_ _); rotate_left; focus (simp; done)) | ((with_reducible refine Below.alloc ?_ ?_ _); rotate_left; focus (simp; done)) | (with_reducible refine Below.drew ?_)))⟩
  · have e1 := str_ne_l h1
    have e2 := str_ne_l h2
    have e3 := str_ne_l h3
    have e4 := str_ne_l h4
    have HR : Hid (beginsB ⟨k, tx, (l, c)⟩ = (k == 2)) := by
      unfold Hid beginsB inW
      rw [show findW [⟨#[108, 105, 102, 101]⟩, ⟨#[99, 111, 117, 110, 116]⟩, ⟨#[112, 111, 119, 101, 114]⟩, ⟨#[40]⟩] tx 0 = none from by simp [findW, Ne.symm h1, Ne.symm h2, Ne.symm h3, Ne.symm h4]]
      rfl
    clear h1 h2 h3 h4
    by_cases hk : k = 2
    · subst hk
      go_enter Tryz.func41, Tryz.ntmps41
      go_wp2
      go_ret
      exact ⟨ret_bool (by rw [HR.out]; rfl), (by repeat (first | (with_reducible exact Below.refl _ _) | (with_reducible assumption) | ((with_reducible refine Below.setCell ?_ ?_ _); rotate_left; focus (simp; done)) | ((with_reducible refine Below.alloc ?_ ?_ _); rotate_left; focus (simp; done)) | (with_reducible refine Below.drew ?_)))⟩
    · have q : ((k : Int) == 2) = false := by simp; omega
      have HK := Lib.hid hk
      clear hk
      go_enter Tryz.func41, Tryz.ntmps41
      go_wp2
      go_ret
      exact ⟨ret_bool (by rw [HR.out]; simp [HK.out]), (by repeat (first | (with_reducible exact Below.refl _ _) | (with_reducible assumption) | ((with_reducible refine Below.setCell ?_ ?_ _); rotate_left; focus (simp; done)) | ((with_reducible refine Below.alloc ?_ ?_ _); rotate_left; focus (simp; done)) | (with_reducible refine Below.drew ?_)))⟩

def lenV : Value → Nat
  | .slice _ n _ => n
  | _ => 0
theorem RowAt.form {α : Type} {P : World → (Nat → Prop) → List Value → α → Prop} {w : World} {S : Nat → Prop} {ty : TypeId} {size : Nat} {v : Value} {xs : List α} (h : RowAt w S ty size P v xs) : ∃ a c, v = .slice a xs.length c := by
  obtain ⟨css, ho, -, -⟩ := h
  rcases ho.2 with ⟨hv, hn⟩ | ⟨g, cap, cur, hv, _⟩
  · exact ⟨_, _, by rw [hv, hn]⟩
  · exact ⟨_, _, hv⟩

/-- Many are handed back. -/
def ManyEnds {α : Type} (ty : TypeId) (size : Nat) (P : World → (Nat → Prop) → List Value → α → Prop) (p : Par (List α)) (E : Env) (s : RS) (w : World) (e : Ending) (w' : World) : Prop :=
  ∃ (xs : List α) (a : Option Addr) (n c : Nat) (s' : RS), e = .returned (.slice a n c) ∧ RowAt w' (From w.heap.size) ty size P (.slice a n c) xs ∧ Res p s xs s' ∧ Goes w E s' 0 w'

section
variable {α : Type} {ts : List Tok} {bg : Tok → Bool} {p : Par α}
/-- What is left of many, behind so many. -/
def Left (ts : List Tok) (bg : Tok → Bool) (p : Par α) (most : Nat) (s : RS) (acc : List α) (s' : RS) : Prop := ∀ y s'', Res (pMany ts bg p (most - acc.length) acc) s' y s'' → Res (pMany ts bg p most []) s y s''
theorem Left.start (most : Nat) (s : RS) : Left ts bg p most s [] s := fun _ _ h => h
theorem Left.more {most : Nat} {s : RS} {acc : List α} {q : Nat} {x : α} {s2 : RS} (h : Left ts bg p most s acc (.ok q)) (hb : bg (tk ts q) = true) (hl : acc.length < most) (hx : Res p (.ok q) x s2) : Left ts bg p most s (acc ++ [x]) s2 := by
  intro y s'' hy
  refine h y s'' ?_
  rw [List.length_append] at hy
  have e : most - acc.length = (most - (acc.length + 1)) + 1 := by omega
  rw [e]
  have hbind : Res (p.bind fun x => pMany ts bg p (most - (acc.length + 1)) (acc ++ [x])) (.ok q) y s'' := Res.bind hx hy
  exact hbind.congr fun q' hq => by cases hq; simp only [pMany, hb, if_true]
theorem Left.full {E : Env} {most : Nat} {s : RS} {acc : List α} {q : Nat} (h : Left E.ts bg p most s acc (.ok q)) (hb : bg (tk E.ts q) = true) (hl : acc.length = most) (y : List α) : Res (pMany E.ts bg p most []) s y (RS.fails E 3 (.ok q)) := by
  refine h y _ ?_
  rw [hl, Nat.sub_self]
  exact (Res.fails E 3 (.ok q) y).congr fun q' hq => by cases hq; simp only [pMany, hb, if_true]
theorem Left.done {E : Env} {most : Nat} {s : RS} {acc : List α} {s' : RS} (h : Left E.ts bg p most s acc s') (hb : bg (E.tok s') = false) : Res (pMany E.ts bg p most []) s acc s' := by
  refine h _ _ ?_
  cases s' with
  | bad x l c => rfl
  | ok q =>
    have hb' : bg (tk E.ts q) = false := hb
    refine Res.of_ok ?_
    cases most - acc.length with
    | zero => simp only [pMany, hb', if_false, Bool.false_eq_true]
    | succ n => simp only [pMany, hb', if_false, Bool.false_eq_true]
end
end Go.Proofs.YtmhpopkbmnhkkaaGreatDoor

/- Layer 2 (parse): what is handed back of effects and cards. -/
namespace Go.Proofs.YtmhpopkbmnhkkaaGreatDoor
open Go.RowKit Go.Lib

/-- An effect is handed back. -/
def EfEnds (p : Par Ef) (E : Env) (s : RS) (w : World) (e : Ending) (w' : World) : Prop := ∃ (x : Ef) (ca : Option Addr) (cn cc : Nat) (va : Option Addr) (vn vc : Nat) (s' : RS),
  e = .returned (.agg #[.int .u8 x.mode, .int .u8 x.ev, .int .u8 x.side, .slice ca cn cc, .int .i64 x.pay, .int .i64 x.discard, .bool x.tribute, .int .i64 x.pick, .int .u8 x.sel.side, .int .u8 x.sel.zone, .int .u8 x.sel.kind, .slice va vn vc]) ∧ EfAt w' (From w.heap.size) (efV x (.slice ca cn cc) (.slice va vn vc)) x ∧ Res p s x s' ∧ Goes w E s' 0 w'
/-- A card is handed back. -/
def CdEnds (p : Par Cd) (E : Env) (s : RS) (w : World) (e : Ending) (w' : World) : Prop := ∃ (x : Cd) (va : Option Addr) (vn vc : Nat) (s' : RS),
  e = .returned (.agg #[.string x.name, .int .u8 x.kind, .int .i64 x.level, .int .i64 x.attack, .int .i64 x.guard, .slice va vn vc]) ∧ CdAt w' (From w.heap.size) (cdV x (.slice va vn vc)) x ∧ Res p s x s' ∧ Goes w E s' 0 w'

end Go.Proofs.YtmhpopkbmnhkkaaGreatDoor
