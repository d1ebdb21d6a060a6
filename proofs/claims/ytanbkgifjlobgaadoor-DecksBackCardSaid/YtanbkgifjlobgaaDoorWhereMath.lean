/- Layer 1 (scan), plain: the spot of a byte. -/
import Derived.Test.YtanbkgifjlobgaaDoorNumMath
namespace Go.Proofs.YtanbkgifjlobgaaDoor
open Go.RowKit Go.Lib

/-- From a rune's beginning on, its spot at hand. -/
def whereGo (s : ByteArray) : Nat → Nat → Int × Int → Int → Int × Int
  | 0, _, here, _ => here
  | f + 1, pos, here, at_ =>
    if pos < s.size then
      if at_ < (pos : Int) + (Utf8.decode s pos).2 then here
      else whereGo s f (pos + (Utf8.decode s pos).2) (nextP here (Utf8.decode s pos).1) at_
    else here
def whereOf (s : ByteArray) (at_ : Int) : Int × Int := whereGo s s.size 0 (1, 1) at_

section
variable (s : ByteArray) (f pos : Nat) (here : Int × Int) (at_ : Int)
theorem whereGo_end (h : ¬ pos < s.size) : whereGo s f pos here at_ = here := by
  cases f <;> simp [whereGo, h]
theorem whereGo_here (h : at_ < (pos : Int) + (Utf8.decode s pos).2) : whereGo s f pos here at_ = here := by
  cases f <;> simp [whereGo, h]
theorem whereGo_more (hp : pos < s.size) (h : ¬ at_ < (pos : Int) + (Utf8.decode s pos).2) :
    whereGo s (f + 1) pos here at_ = whereGo s f (pos + (Utf8.decode s pos).2) (nextP here (Utf8.decode s pos).1) at_ := by
  conv => lhs; unfold whereGo
  rw [if_pos hp, if_neg h]
end
theorem whereOf_neg (s : ByteArray) (at_ : Int) (h : at_ < 0) : whereOf s at_ = (1, 1) := by
  unfold whereOf
  exact whereGo_here s _ _ _ _ (by omega)
end Go.Proofs.YtanbkgifjlobgaaDoor
