/- What the calls ask of the world: Go's tables of letters and of UTF-8, where the program lays them; kept while new memory is made. -/
import Derived.Test.YtanbkgifjlobgaaDoorShelf
import Derived.Test.YtanbkgifjlobgaaDoorRows
import Derived.WalkSmall
import Derived.Lib.IsU
namespace Go.Proofs.YtanbkgifjlobgaaDoor
open Go.RowKit Go.Lib

theorem cell_later {w wx : World} {a : Addr} {v : Value} (hb : Below w.heap.size w wx) (h : w.cell? a = some v) : wx.cell? a = some v := (hb.cell (World.block_lt_of_cell? _ _ h)).trans h

structure Tabs (w : World) : Prop where
  props : Lib.TabIs Tryd.prog w "unicode.properties" .u8 Lib.propertiesTab
  letters : RVar 1 letterT w
  utf8 : Utf8Tabs 3 4 w
  size : 4 ≤ w.heap.size

theorem g_props : Tryd.prog.globalNamed "unicode.properties" = some 0 := by kernel_rfl

theorem Tabs.below {w w' : World} (h : Tabs w) (hb : Below w.heap.size w w') : Tabs w' := by
  obtain ⟨hp, ⟨Tb, oT, h0, a16, a32, R16, o16, c16, R32, o32, c32, h1, h2, h3, h4, h5, h6, h7, h8⟩, ⟨h9, h10⟩, hz⟩ := h
  refine ⟨var?_below hb g_props (by omega) hp, ⟨Tb, oT, cell_later hb h0, a16, a32, R16, o16, c16, R32, o32, c32, cell_later hb h1, cell_later hb h2, cell_later hb h3, h4, h5, ?_, ?_, h8⟩, ⟨?_, ?_⟩, ?_⟩
  · intro i hi
    obtain ⟨x, y, z⟩ := h6 i hi
    exact ⟨cell_later hb x, cell_later hb y, cell_later hb z⟩
  · intro i hi
    obtain ⟨x, y, z⟩ := h7 i hi
    exact ⟨cell_later hb x, cell_later hb y, cell_later hb z⟩
  · intro c hc
    exact cell_later hb (h9 c hc)
  · intro i hi
    exact ⟨cell_later hb (h10 i hi).1, cell_later hb (h10 i hi).2⟩
  · exact Nat.le_trans hz hb.size

def letB (r : Int) : Bool := if latin1 r then isLetterL r else exclGo letterT r

theorem letB_mark : letB 45 = false := by kernel_rfl
theorem letB_err : letB 65533 = false := by kernel_rfl

theorem isLetter_any (r : Int) (w : World) (hlo : -2147483648 ≤ r) (hhi : r ≤ 2147483647) (hT : Tabs w) :
    Calls Tryd.prog 45 #[.int .i32 r] w fun e w' => e = .returned (.bool (letB r)) ∧ Below w.heap.size w w' :=
  Tryd.unicode_IsLetter_any letterT r w hlo hhi hT.props hT.letters letterT_ok

theorem isLetter_yes (r : Int) (w : World) (hlo : -2147483648 ≤ r) (hhi : r ≤ 2147483647) (hT : Tabs w) (h : letB r = true) :
    Calls Tryd.prog 45 #[.int .i32 r] w fun e w' => e = .returned (.bool true) ∧ Below w.heap.size w w' := by
  rw [← h]; exact isLetter_any r w hlo hhi hT
theorem isLetter_no (r : Int) (w : World) (hlo : -2147483648 ≤ r) (hhi : r ≤ 2147483647) (hT : Tabs w) (h : letB r = false) :
    Calls Tryd.prog 45 #[.int .i32 r] w fun e w' => e = .returned (.bool false) ∧ Below w.heap.size w w' := by
  rw [← h]; exact isLetter_any r w hlo hhi hT
theorem decode_any (s : ByteArray) (w : World) (hT : Tabs w) :
    Calls Tryd.prog 51 #[.string s] w fun e w' => e = .returned (.tuple #[.int .i32 (decodeGo s).1, .int .i64 (decodeGo s).2]) ∧ Below w.heap.size w w' :=
  Tryd.utf8_DecodeRuneInString s w hT.utf8
end Go.Proofs.YtanbkgifjlobgaaDoor
