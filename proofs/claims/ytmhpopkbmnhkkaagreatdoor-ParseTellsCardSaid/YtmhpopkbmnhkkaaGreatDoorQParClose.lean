import Derived.Test.YtmhpopkbmnhkkaaGreatDoorQScan
import Derived.Test.YtmhpopkbmnhkkaaGreatDoorQParTop
import Derived.LaidLaws
import Derived.Test.YtmhpopkbmnhkkaaGreatDoorCards
import Derived.Test.YtmhpopkbmnhkkaaGreatDoorTie
import Derived.ProofKit
import Derived.PinnedBridge
import Derived.Lay
import Derived.LaidOnce
import Derived.SevenTiedAt
import Derived.Lib.LaidU8
/- What the two statements of layer 2 share: the listed tables and errors, as the walks want them. -/
namespace Go.Proofs.YtmhpopkbmnhkkaaGreatDoor
open Go.RowKit Go.Shelf Go.Lib
open Go.ChangeShapes Go.WideShapes Go.ChangeAt
open Go.ChangeMaps (open_string shut_string)

theorem own : ownKnob Tryz.prog.godebug = none := by kernel_rfl
theorem xR : RExtra Tryz.prog Tryz.lays200_ren := ⟨by kernel_rfl, by kernel_rfl, by kernel_rfl, by kernel_rfl, by kernel_rfl, by kernel_rfl, by kernel_rfl, by kernel_rfl⟩
theorem xU : U8Extra Tryz.prog Tryz.lays260_ren := ⟨by kernel_rfl, by kernel_rfl, by kernel_rfl, by kernel_rfl, by kernel_rfl, by kernel_rfl, by kernel_rfl⟩
theorem props_eq : (Rows.laid_unicode_properties : DataW Unit) = tabData .u8 propertiesTab := by kernel_rfl
theorem accept_eq : (Rows.laid_unicode_utf8_acceptRanges : DataW Unit) = acceptData := by kernel_rfl
def laidAll : List (String × DataW Unit) := Rows.parseTellsRow.laid

theorem tabs_of_laid {W : World} (hL : laidMet Tryz.prog laidAll W) : Tabs W := by
  have hpro : VarReads Tryz.prog W "unicode.properties" (tabData .u8 propertiesTab) := by rw [← props_eq]; exact Lib.laidMet.reads hL (.tail _ (.tail _ (.tail _ (.tail _ (.tail _ (.tail _ (.head _)))))))
  have hlet : VarReads Tryz.prog W "unicode.Letter" (rtabData letterT) := by rw [← Pinned.letter_eq]; exact Lib.laidMet.reads hL (.tail _ (.tail _ (.tail _ (.tail _ (.tail _ (.tail _ (.tail _ (.head _))))))))
  have hu : Utf8Tabs 6 7 W :=
    utf8Tabs_of_reads Tryz.lays260 xU (by rw [← Pinned.utf8First_eq]; exact Lib.laidMet.reads hL (.tail _ (.tail _ (.tail _ (.tail _ (.tail _ (.tail _ (.tail _ (.tail _ (.head _)))))))))) (by rw [← accept_eq]; exact Lib.laidMet.reads hL (.tail _ (.tail _ (.tail _ (.head _)))))
  refine ⟨?_, ?_, hu, ?_⟩
  · obtain ⟨g', t', cs, fuel, p, hg', ht', hvar, hd⟩ := hpro
    obtain rfl := Option.some.inj (g_props.symm.trans hg')
    obtain rfl := Option.some.inj ((show (Tryz.prog.globals[2]?).map (·.type) = some 172 by kernel_rfl).symm.trans ht')
    unfold Lib.TabIs
    rw [hvar, ← cells_of_tab (n := 256) (e := 5) (by kernel_rfl) (by kernel_rfl) (by kernel_rfl) (by kernel_rfl) hd]
  · exact rvar_of_reads { Tryz.lays200 with } xR (by kernel_rfl) (by kernel_rfl) hlet
  · have h1 := World.block_lt_of_cell? W _ ((hu.1 0 (by decide)))
    have h2 := World.block_lt_of_cell? W _ ((hu.2 0 (by decide)).1)
    simp at h1 h2
    omega
theorem cell_of_var {W : World} {n : String} {g : Nat} {cs : Array Value} {v : Value} (hg : Tryz.prog.globalNamed n = some g) (h : W.var? Tryz.prog n = some cs) (hv : cs.toList = [v]) : W.cell? ⟨g, 0, none⟩ = some v := by
  unfold World.var? at h
  rw [hg] at h
  simp only [Option.bind_some] at h
  split at h
  · rename_i cs' t fr hb
    cases h
    have hcs : cs = #[v] := by apply Array.ext'; simpa using hv
    subst hcs
    simp [World.cell?, hb]
  · cases h
theorem g_syn : Tryz.prog.globalNamed "strconv.ErrSyntax" = some 10 := by kernel_rfl
theorem g_rng : Tryz.prog.globalNamed "strconv.ErrRange" = some 11 := by kernel_rfl
theorem ptabs_of_laid {W : World} (hL : laidMet Tryz.prog laidAll W) : PTabs W := by
  refine ⟨tabs_of_laid hL, ?_, ?_⟩
  · obtain ⟨g', t', cs, fuel, p, hg', ht', hvar, hd⟩ : VarReads Tryz.prog W "strconv.ErrSyntax" Rows.laid_strconv_ErrSyntax := Lib.laidMet.reads hL (.tail _ (.tail _ (.tail _ (.tail _ (.tail _ (.head _))))))
    obtain rfl := Option.some.inj (g_syn.symm.trans hg')
    obtain rfl := Option.some.inj ((show (Tryz.prog.globals[10]?).map (·.type) = some 146 by kernel_rfl).symm.trans ht')
    obtain ⟨_, te, pe, hcs, _⟩ := iface_of_trod Tryz.underlying146 hd
    exact ⟨te, pe, cell_of_var g_syn hvar hcs⟩
  · obtain ⟨g', t', cs, fuel, p, hg', ht', hvar, hd⟩ : VarReads Tryz.prog W "strconv.ErrRange" Rows.laid_strconv_ErrRange := Lib.laidMet.reads hL (.tail _ (.tail _ (.tail _ (.tail _ (.head _)))))
    obtain rfl := Option.some.inj (g_rng.symm.trans hg')
    obtain rfl := Option.some.inj ((show (Tryz.prog.globals[11]?).map (·.type) = some 146 by kernel_rfl).symm.trans ht')
    obtain ⟨_, te, pe, hcs, _⟩ := iface_of_trod Tryz.underlying146 hd
    exact ⟨te, pe, cell_of_var g_rng hvar hcs⟩
end Go.Proofs.YtmhpopkbmnhkkaaGreatDoor
