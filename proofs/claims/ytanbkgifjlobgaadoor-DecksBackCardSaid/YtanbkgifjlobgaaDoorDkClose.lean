/- Layer 5 (decks): the listed tables, as the walks want them. -/
import Derived.Test.YtanbkgifjlobgaaDoorTabs
import Derived.LaidLaws
import Derived.Test.YtanbkgifjlobgaaDoorCards
import Derived.Test.YtanbkgifjlobgaaDoorTie
import Derived.ProofKit
import Derived.PinnedBridge
import Derived.Lay
import Derived.LaidOnce
import Derived.SevenTiedAt
import Derived.Lib.LaidU8
namespace Go.Proofs.YtanbkgifjlobgaaDoor
open Go.RowKit Go.Shelf Go.Lib
open Go.ChangeShapes Go.WideShapes Go.ChangeAt
open Go.ChangeMaps (open_string shut_string)

theorem own : ownKnob Tryd.prog.godebug = none := by kernel_rfl
theorem xR : RExtra Tryd.prog Tryd.lays200_ren := ⟨by kernel_rfl, by kernel_rfl, by kernel_rfl, by kernel_rfl, by kernel_rfl, by kernel_rfl, by kernel_rfl, by kernel_rfl⟩
theorem xU : U8Extra Tryd.prog Tryd.lays260_ren := ⟨by kernel_rfl, by kernel_rfl, by kernel_rfl, by kernel_rfl, by kernel_rfl, by kernel_rfl, by kernel_rfl⟩
theorem props_eq : (Rows.laid_unicode_properties : DataW Unit) = tabData .u8 propertiesTab := by kernel_rfl
theorem accept_eq : (Rows.laid_unicode_utf8_acceptRanges : DataW Unit) = acceptData := by kernel_rfl
def laidAll : List (String × DataW Unit) := Rows.decksBackRow.laid

theorem tabs_of_laid {W : World} (hL : laidMet Tryd.prog laidAll W) : Tabs W := by
  have hpro : VarReads Tryd.prog W "unicode.properties" (tabData .u8 propertiesTab) := by rw [← props_eq]; exact Lib.laidMet.reads hL (.tail _ (.tail _ (.tail _ (.tail _ (.tail _ (.tail _ (.head _)))))))
  have hlet : VarReads Tryd.prog W "unicode.Letter" (rtabData letterT) := by rw [← Pinned.letter_eq]; exact Lib.laidMet.reads hL (.tail _ (.tail _ (.tail _ (.tail _ (.tail _ (.tail _ (.tail _ (.head _))))))))
  have hu : Utf8Tabs 3 4 W :=
    utf8Tabs_of_reads Tryd.lays260 xU (by rw [← Pinned.utf8First_eq]; exact Lib.laidMet.reads hL (.tail _ (.tail _ (.tail _ (.tail _ (.tail _ (.tail _ (.tail _ (.tail _ (.head _)))))))))) (by rw [← accept_eq]; exact Lib.laidMet.reads hL (.tail _ (.tail _ (.tail _ (.head _)))))
  refine ⟨?_, ?_, hu, ?_⟩
  · obtain ⟨g', t', cs, fuel, p, hg', ht', hvar, hd⟩ := hpro
    obtain rfl := Option.some.inj (g_props.symm.trans hg')
    obtain rfl := Option.some.inj ((show (Tryd.prog.globals[0]?).map (·.type) = some 106 by kernel_rfl).symm.trans ht')
    unfold Lib.TabIs
    rw [hvar, ← cells_of_tab (n := 256) (e := 5) (by kernel_rfl) (by kernel_rfl) (by kernel_rfl) (by kernel_rfl) hd]
  · exact rvar_of_reads { Tryd.lays200 with } xR (by kernel_rfl) (by kernel_rfl) hlet
  · have h1 := World.block_lt_of_cell? W _ ((hu.1 0 (by decide)))
    have h2 := World.block_lt_of_cell? W _ ((hu.2 0 (by decide)).1)
    simp at h1 h2
    omega
end Go.Proofs.YtanbkgifjlobgaaDoor
