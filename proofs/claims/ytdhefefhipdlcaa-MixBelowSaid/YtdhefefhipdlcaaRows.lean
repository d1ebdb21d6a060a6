/-
  No cell of these rows narrows 'for every input' (looked for: loops, veiled, ifaces, maps, wideKeys, modest, calm, conditions, laid).
  DERIVED. THE GIVEN ROWS OF THIS SEAT. 5 by the template 'for every input the law returns true; each argument reads behind the call as it read before'; 0 by the template 'total and deterministic' (their statements: YtdhefefhipdlcaaTotals.lean).
  GIVEN WITH THE SEED: the statements are not yours to turn. If you find one false, say at which input.
  Laid BY PROGRAM, IN A SANDBOX (cutbox-rows.mjs): the forced cells as the released guide's own fill.sh prints them over the translation debc397d00d24fdc… (all of the seat's roots in one cut). By AI agents, Wed Nov 11 2026. No macro, syntax, notation, axiom, sorry.
-/
import Derived.Test.YtdhefefhipdlcaaChecked
import GoSem.Claim
import GoSem.ClaimJoined
import GoSem.ClaimMapViews
import Derived.JoinedTies
import Derived.KernelRfl
namespace Go.Proofs.Ytdhefefhipdlcaa
/- THE CELL 'sum', in the pinned program and in every row, IS THE sha256 OF THE DUMP (.gsa) THAT YtdhefefhipdlcaaProg.lean LOADS. Nothing in Lean hashes anything: it is a label: what it is worth is what the hold of that sum in a sandbox is worth. -/
noncomputable def Try.pinned : Pinned := { name := "ytdhefefhipdlcaa", sum := "debc397d00d24fdcd791eaf8f087164cce0e1a4b4472826d976b2d986344274f", checked := Try.checked }
namespace Rows
def none {H : Type} : Left H := { results := [], args := [] }

/-- 'joustlaw27.MixTells': WHATEVER THE INPUT: true; the input reads as it did. -/
def mixTellsSpec : ChangeSpec := { name := "mixTells", fn := fun _ => fun
  | [d1, d2, d3, d4, d5, d6, d7] => { results := [.lit (.bool true)], args := [d1, d2, d3, d4, d5, d6, d7] }
  | _ => none }
def mixTellsRow : OpenClaim := { program := "ytdhefefhipdlcaa", sum := "debc397d00d24fdcd791eaf8f087164cce0e1a4b4472826d976b2d986344274f", func := "joust/joustlaw27.MixTells", spec := "mixTells", unfollowed := true, recurses := true, apart := false }
def MixTellsSaid : Prop := mixTellsRow.holds Try.pinned (OpenSpec.ofChange mixTellsSpec)

/-- ITS FALSE NEIGHBOUR: 'it returns false'. Refute it at one input. -/
def mixTellsWrong : ChangeSpec := { name := "mixTells", fn := fun _ => fun
  | [d1, d2, d3, d4, d5, d6, d7] => { results := [.lit (.bool false)], args := [d1, d2, d3, d4, d5, d6, d7] }
  | _ => none }
def MixTellsWrongFalsely : Prop := mixTellsRow.holds Try.pinned (OpenSpec.ofChange mixTellsWrong)

/-- 'joustlaw27.MixLots': WHATEVER THE INPUT: true; the input reads as it did. -/
def mixLotsSpec : ChangeSpec := { name := "mixLots", fn := fun _ => fun
  | [d1, d2, d3] => { results := [.lit (.bool true)], args := [d1, d2, d3] }
  | _ => none }
def mixLotsRow : OpenClaim := { program := "ytdhefefhipdlcaa", sum := "debc397d00d24fdcd791eaf8f087164cce0e1a4b4472826d976b2d986344274f", func := "joust/joustlaw27.MixLots", spec := "mixLots", unfollowed := true, recurses := true, apart := false }
def MixLotsSaid : Prop := mixLotsRow.holds Try.pinned (OpenSpec.ofChange mixLotsSpec)

/-- ITS FALSE NEIGHBOUR: 'it returns false'. Refute it at one input. -/
def mixLotsWrong : ChangeSpec := { name := "mixLots", fn := fun _ => fun
  | [d1, d2, d3] => { results := [.lit (.bool false)], args := [d1, d2, d3] }
  | _ => none }
def MixLotsWrongFalsely : Prop := mixLotsRow.holds Try.pinned (OpenSpec.ofChange mixLotsWrong)

/-- 'joustlaw27.MixBack': WHATEVER THE INPUT: true; the input reads as it did. -/
def mixBackSpec : ChangeSpec := { name := "mixBack", fn := fun _ => fun
  | [d1, d2, d3] => { results := [.lit (.bool true)], args := [d1, d2, d3] }
  | _ => none }
def mixBackRow : OpenClaim := { program := "ytdhefefhipdlcaa", sum := "debc397d00d24fdcd791eaf8f087164cce0e1a4b4472826d976b2d986344274f", func := "joust/joustlaw27.MixBack", spec := "mixBack", unfollowed := true, recurses := true, apart := false }
def MixBackSaid : Prop := mixBackRow.holds Try.pinned (OpenSpec.ofChange mixBackSpec)

/-- ITS FALSE NEIGHBOUR: 'it returns false'. Refute it at one input. -/
def mixBackWrong : ChangeSpec := { name := "mixBack", fn := fun _ => fun
  | [d1, d2, d3] => { results := [.lit (.bool false)], args := [d1, d2, d3] }
  | _ => none }
def MixBackWrongFalsely : Prop := mixBackRow.holds Try.pinned (OpenSpec.ofChange mixBackWrong)

/-- 'joustlaw27.MixBelow': WHATEVER THE INPUT: true; the input reads as it did. -/
def mixBelowSpec : ChangeSpec := { name := "mixBelow", fn := fun _ => fun
  | [d1, d2, d3] => { results := [.lit (.bool true)], args := [d1, d2, d3] }
  | _ => none }
def mixBelowRow : OpenClaim := { program := "ytdhefefhipdlcaa", sum := "debc397d00d24fdcd791eaf8f087164cce0e1a4b4472826d976b2d986344274f", func := "joust/joustlaw27.MixBelow", spec := "mixBelow", unfollowed := true, recurses := true, apart := false }
def MixBelowSaid : Prop := mixBelowRow.holds Try.pinned (OpenSpec.ofChange mixBelowSpec)

/-- ITS FALSE NEIGHBOUR: 'it returns false'. Refute it at one input. -/
def mixBelowWrong : ChangeSpec := { name := "mixBelow", fn := fun _ => fun
  | [d1, d2, d3] => { results := [.lit (.bool false)], args := [d1, d2, d3] }
  | _ => none }
def MixBelowWrongFalsely : Prop := mixBelowRow.holds Try.pinned (OpenSpec.ofChange mixBelowWrong)

/-- 'joustlaw27.MixSeed': WHATEVER THE INPUT: true; the input reads as it did. -/
def mixSeedSpec : ChangeSpec := { name := "mixSeed", fn := fun _ => fun
  | [d1, d2] => { results := [.lit (.bool true)], args := [d1, d2] }
  | _ => none }
def mixSeedRow : OpenClaim := { program := "ytdhefefhipdlcaa", sum := "debc397d00d24fdcd791eaf8f087164cce0e1a4b4472826d976b2d986344274f", func := "joust/joustlaw27.MixSeed", spec := "mixSeed", unfollowed := true, recurses := true, apart := false }
def MixSeedSaid : Prop := mixSeedRow.holds Try.pinned (OpenSpec.ofChange mixSeedSpec)

/-- ITS FALSE NEIGHBOUR: 'it returns false'. Refute it at one input. -/
def mixSeedWrong : ChangeSpec := { name := "mixSeed", fn := fun _ => fun
  | [d1, d2] => { results := [.lit (.bool false)], args := [d1, d2] }
  | _ => none }
def MixSeedWrongFalsely : Prop := mixSeedRow.holds Try.pinned (OpenSpec.ofChange mixSeedWrong)

/- THE SECOND FORM. 'bulk': how many values and letters a reading holds, each counted each time it is reached (what is shared counts as often as it is met; a slice's spare places count too). A statement '..UptoSaid' is the law's where the arguments, and the package variables that the reading takes, are together of bulk at most 1048576: NARROWER than '..Said'. Prove '..Said' where nothing that the law and all that it calls make is longer than what came in: it says more and counts as full. Else prove '..UptoSaid'. A law counts once. -/
mutual
def uptoBulk {H : Type} : DataW H → Nat
  | .lit (.string bytes) => bytes.length + 1
  | .lit _ => 1
  | .nil => 1
  | .ptr d => uptoBulk d + 1
  | .slice elems spare => uptoBulkAll elems + uptoBulkAll spare + 1
  | .agg parts => uptoBulkAll parts + 1
  | .iface _ d => uptoBulk d + 1
  | .map entries => uptoBulkEntries entries + 1
  | .held _ => 1
def uptoBulkAll {H : Type} : List (DataW H) → Nat
  | [] => 0
  | d :: r => uptoBulk d + uptoBulkAll r
def uptoBulkEntries {H : Type} : List (Lit × DataW H) → Nat
  | [] => 0
  | x :: r => uptoBulkEntry x + uptoBulkEntries r
def uptoBulkEntry {H : Type} : Lit × DataW H → Nat
  | (.string bytes, d) => bytes.length + uptoBulk d + 1
  | (_, d) => uptoBulk d + 1
 end
def uptoSmall : (H : Type) → List (DataW H) → Bool := fun _ ds => decide (uptoBulkAll ds ≤ 1048576)
def OpenSpec.upto (s : _root_.Go.ChangeSpec) : _root_.Go.OpenSpec := { _root_.Go.OpenSpec.ofChange s with cond := some uptoSmall }

/-- 'joustlaw27.MixTells', WHERE WHAT IT READS IS OF BULK AT MOST 1048576: true; the input reads as it did. -/
def mixTellsUptoRow : OpenClaim := { program := "ytdhefefhipdlcaa", sum := "debc397d00d24fdcd791eaf8f087164cce0e1a4b4472826d976b2d986344274f", func := "joust/joustlaw27.MixTells", spec := "mixTells", unfollowed := true, recurses := true, apart := false, narrowed := true }
def MixTellsUptoSaid : Prop := mixTellsUptoRow.holds Try.pinned (OpenSpec.upto mixTellsSpec)

/-- 'joustlaw27.MixLots', WHERE WHAT IT READS IS OF BULK AT MOST 1048576: true; the input reads as it did. -/
def mixLotsUptoRow : OpenClaim := { program := "ytdhefefhipdlcaa", sum := "debc397d00d24fdcd791eaf8f087164cce0e1a4b4472826d976b2d986344274f", func := "joust/joustlaw27.MixLots", spec := "mixLots", unfollowed := true, recurses := true, apart := false, narrowed := true }
def MixLotsUptoSaid : Prop := mixLotsUptoRow.holds Try.pinned (OpenSpec.upto mixLotsSpec)

/-- 'joustlaw27.MixBack', WHERE WHAT IT READS IS OF BULK AT MOST 1048576: true; the input reads as it did. -/
def mixBackUptoRow : OpenClaim := { program := "ytdhefefhipdlcaa", sum := "debc397d00d24fdcd791eaf8f087164cce0e1a4b4472826d976b2d986344274f", func := "joust/joustlaw27.MixBack", spec := "mixBack", unfollowed := true, recurses := true, apart := false, narrowed := true }
def MixBackUptoSaid : Prop := mixBackUptoRow.holds Try.pinned (OpenSpec.upto mixBackSpec)

/-- 'joustlaw27.MixBelow', WHERE WHAT IT READS IS OF BULK AT MOST 1048576: true; the input reads as it did. -/
def mixBelowUptoRow : OpenClaim := { program := "ytdhefefhipdlcaa", sum := "debc397d00d24fdcd791eaf8f087164cce0e1a4b4472826d976b2d986344274f", func := "joust/joustlaw27.MixBelow", spec := "mixBelow", unfollowed := true, recurses := true, apart := false, narrowed := true }
def MixBelowUptoSaid : Prop := mixBelowUptoRow.holds Try.pinned (OpenSpec.upto mixBelowSpec)

/-- 'joustlaw27.MixSeed', WHERE WHAT IT READS IS OF BULK AT MOST 1048576: true; the input reads as it did. -/
def mixSeedUptoRow : OpenClaim := { program := "ytdhefefhipdlcaa", sum := "debc397d00d24fdcd791eaf8f087164cce0e1a4b4472826d976b2d986344274f", func := "joust/joustlaw27.MixSeed", spec := "mixSeed", unfollowed := true, recurses := true, apart := false, narrowed := true }
def MixSeedUptoSaid : Prop := mixSeedUptoRow.holds Try.pinned (OpenSpec.upto mixSeedSpec)

end Rows
end Go.Proofs.Ytdhefefhipdlcaa
