/- The last link of a chain: match.Link and the document's own. -/
import Derived.Test.YtggmiiifpocfdaaMtFit
namespace Go.Proofs.Ytggmiiifpocfdaa
open Go.RowKit Go.Lib Go.Shelf

/-- A chain that came in: of its last link it is told whose it is. -/
def ChainAt (w : World) (q : Option Addr) (n : Nat) (last : Nat) : Prop := n ≤ maxLen ∧ last ≤ 255 ∧ (n ≠ 0 → ∃ b o, q = some ⟨b, o, none⟩ ∧ w.cell? ⟨b, o + (n - 1) * 6, none⟩ = some (.int .u8 last))
theorem ChainAt.below {w w' : World} {q : Option Addr} {n last : Nat} (h : ChainAt w q n last) (hb : Below w.heap.size w w') : ChainAt w' q n last :=
  ⟨h.1, h.2.1, fun hn => by obtain ⟨b, o, e, hc⟩ := h.2.2 hn; exact ⟨b, o, e, below_cell' hb hc (World.block_lt_of_cell? _ _ hc)⟩⟩
def linkB (n : Nat) (who side : Int) (last : Nat) : Bool := decide (0 < n) && (side != 3 && askB who (-1) side last (-1))
set_option maxHeartbeats 2000000 in
theorem link_any (q : Option Addr) (n c : Nat) (who side : Int) (last : Nat) (w : World) (h : ChainAt w q n last) (hw : 0 ≤ who ∧ who ≤ 255) (hs : 0 ≤ side ∧ side ≤ 255) :
    Calls Try.prog 10 #[.int .u8 who, .int .u8 side, .slice q n c] w fun e w' => e = .returned (.bool (linkB n who side last)) ∧ Below w.heap.size w w' := by
  obtain ⟨hm, hl, hc⟩ := h
  unfold maxLen at hm
  by_cases h0 : n = 0
  · subst h0
    clear hc
    go_enter Try.func10, Try.ntmps10
    go_wp2
    go_ret
    exact ⟨rfl, Below.refl _ _⟩
  · obtain ⟨b, o, rfl, hcl⟩ := hc h0
    clear hc
    by_cases h3 : side = 3
    · subst h3
      have e : linkB n who 3 last = false := by simp [linkB]
      rw [e]
      have e1 : ((n : Int) == 0) = false := by simpa using h0
      clear e hcl h0
      go_enter Try.func10, Try.ntmps10
      go_wp2
      go_ret
      exact ⟨rfl, Below.refl _ _⟩
    · have e : linkB n who side last = askB who (-1) side last (-1) := by
        have h1 : decide (0 < n) = true := by simp; omega
        simp [linkB, h1, h3]
      rw [e]
      have e1 : ((n : Int) == 0) = false := by simpa using h0
      have e3 : (side == 3) = false := by simpa using h3
      have n1 : IntKind.i64.wrap ((n : Int) - 1) = (n : Int) - 1 := IntWalk.i64_in _ (by omega)
      have n2 : (0 : Int) ≤ (n : Int) - 1 := by omega
      have n5 : (1 : Int) ≤ (n : Int) := by omega
      have n3 : (n : Int) - 1 < (n : Int) := by omega
      have n4 : ((n : Int) - 1).toNat = n - 1 := by omega
      have ha := Lib.hid fun W => asking_any who (-1) side W hw hs
      have HC := Lib.hid fun (W : World) (hb : Below w.heap.size w W) => below_cell' hb hcl (World.block_lt_of_cell? _ _ hcl)
      clear e h0 h3 hw hs
      go_enter Try.func10, Try.ntmps10
      go_wp2_with fail
      go_region_held3 (fun w' => w'.cell? ⟨b, o + (n - 1) * 6, none⟩ = some (.int .u8 last))
        (first | go_keep | (with_reducible exact q1) | (with_reducible exact q2))
        (first
          | (go_at_call 15; refine (ha.out _).mono ?_; rintro e w1 ⟨⟨v, rfl, ha⟩, b1⟩;
             have hb1 : Below w.heap.size w w1 := (Below.refl _ _).drew.trans (b1.mono (by simp)); have q1 := HC.out w1 hb1; have HB1 := Lib.hid hb1;
             obtain ⟨g, lb, rfl, eg, hf⟩ := ha; have HF := Lib.hid hf; clear hf)
          | (go_at_fn g; refine (HF.out _ (by first | exact Below.refl _ _ | exact (Below.refl _ _).drew) last (-1) hl).mono ?_; rintro e w2 ⟨rfl, rfl⟩))
      go_wp2
      go_ret
      exact ⟨rfl, HB1.out⟩
end Go.Proofs.Ytggmiiifpocfdaa
