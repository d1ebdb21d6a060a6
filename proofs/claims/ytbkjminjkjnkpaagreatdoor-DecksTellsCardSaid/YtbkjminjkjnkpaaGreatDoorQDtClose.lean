import Derived.Test.YtbkjminjkjnkpaaGreatDoorQScan
import Derived.LaidLaws
import Derived.Test.YtbkjminjkjnkpaaGreatDoorCards
import Derived.Test.YtbkjminjkjnkpaaGreatDoorTie
import Derived.ProofKit
import Derived.PinnedBridge
import Derived.Lay
import Derived.LaidOnce
import Derived.SevenTiedAt
import Derived.Lib.LaidU8
/- Layer 5 (decks): the listed tables, as the walks want them. -/
namespace Go.Proofs.YtbkjminjkjnkpaaGreatDoor
open Go.RowKit Go.Shelf Go.Lib
open Go.ChangeShapes Go.WideShapes Go.ChangeAt
open Go.ChangeMaps (open_string shut_string)

theorem own : ownKnob Tryz.prog.godebug = none := by kernel_rfl
theorem xR : RExtra Tryz.prog Tryz.lays200_ren := ⟨by kernel_rfl, by kernel_rfl, by kernel_rfl, by kernel_rfl, by kernel_rfl, by kernel_rfl, by kernel_rfl, by kernel_rfl⟩
theorem xU : U8Extra Tryz.prog Tryz.lays260_ren := ⟨by kernel_rfl, by kernel_rfl, by kernel_rfl, by kernel_rfl, by kernel_rfl, by kernel_rfl, by kernel_rfl⟩
theorem props_eq : (Rows.laid_unicode_properties : DataW Unit) = tabData .u8 propertiesTab := by kernel_rfl
theorem accept_eq : (Rows.laid_unicode_utf8_acceptRanges : DataW Unit) = acceptData := by kernel_rfl
def laidAll : List (String × DataW Unit) := Rows.decksTellsRow.laid

theorem tabs_of_laid {W : World} (hL : laidMet Tryz.prog laidAll W) : Tabs W := by
  have hpro : VarReads Tryz.prog W "unicode.properties" (tabData .u8 propertiesTab) := by rw [← props_eq]; exact Lib.laidMet.reads hL (.tail _ (.tail _ (.tail _ (.tail _ (.tail _ (.tail _ (.head _)))))))
  have hlet : VarReads Tryz.prog W "unicode.Letter" (rtabData letterT) := by rw [← Pinned.letter_eq]; exact Lib.laidMet.reads hL (.tail _ (.tail _ (.tail _ (.tail _ (.tail _ (.tail _ (.tail _ (.head _))))))))
  have hu : Utf8Tabs 2 3 W :=
    utf8Tabs_of_reads Tryz.lays260 xU (by rw [← Pinned.utf8First_eq]; exact Lib.laidMet.reads hL (.tail _ (.tail _ (.tail _ (.tail _ (.tail _ (.tail _ (.tail _ (.tail _ (.head _)))))))))) (by rw [← accept_eq]; exact Lib.laidMet.reads hL (.tail _ (.tail _ (.tail _ (.head _)))))
  refine ⟨?_, ?_, hu, ?_⟩
  · obtain ⟨g', t', cs, fuel, p, hg', ht', hvar, hd⟩ := hpro
    obtain rfl := Option.some.inj (g_props.symm.trans hg')
    obtain rfl := Option.some.inj ((show (Tryz.prog.globals[0]?).map (·.type) = some 120 by kernel_rfl).symm.trans ht')
    unfold Lib.TabIs
    rw [hvar, ← cells_of_tab (n := 256) (e := 5) (by kernel_rfl) (by kernel_rfl) (by kernel_rfl) (by kernel_rfl) hd]
  · exact rvar_of_reads { Tryz.lays200 with } xR (by kernel_rfl) (by kernel_rfl) hlet
  · have h1 := World.block_lt_of_cell? W _ ((hu.1 0 (by decide)))
    have h2 := World.block_lt_of_cell? W _ ((hu.2 0 (by decide)).1)
    simp at h1 h2
    omega
end Go.Proofs.YtbkjminjkjnkpaaGreatDoor
