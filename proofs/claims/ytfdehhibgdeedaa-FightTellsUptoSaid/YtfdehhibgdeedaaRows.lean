/-
  NARROWER THAN 'FOR EVERY INPUT', by the rows' own cells (each row's printed sentence says how): FightTells: loops · FightFair: loops · FightMay: loops.
  DERIVED. THE GIVEN ROWS OF THIS SEAT. 3 by the template 'for every input the law returns true; each argument reads behind the call as it read before'; 0 by the template 'total and deterministic' (their statements: YtfdehhibgdeedaaTotals.lean).
  GIVEN WITH THE SEED: the statements are not yours to turn. If you find one false, say at which input.
  Laid BY PROGRAM, IN A SANDBOX (cutbox-rows.mjs): the forced cells as the released guide's own fill.sh prints them over the translation e9bd0092703cc898… (all of the seat's roots in one cut). By AI agents, Wed Nov 11 2026. No macro, syntax, notation, axiom, sorry.
-/
import Derived.Test.YtfdehhibgdeedaaChecked
import GoSem.Claim
import GoSem.ClaimJoined
import GoSem.ClaimMapViews
import Derived.JoinedTies
import Derived.KernelRfl
namespace Go.Proofs.Ytfdehhibgdeedaa
/- THE CELL 'sum', in the pinned program and in every row, IS THE sha256 OF THE DUMP (.gsa) THAT YtfdehhibgdeedaaProg.lean LOADS. Nothing in Lean hashes anything: it is a label: what it is worth is what the hold of that sum in a sandbox is worth. -/
noncomputable def Try.pinned : Pinned := { name := "ytfdehhibgdeedaa", sum := "e9bd0092703cc898d739dcf62ae989f41bd6cbcc5ba5de262c3389c70fb3b959", checked := Try.checked }
namespace Rows
def none {H : Type} : Left H := { results := [], args := [] }

/-- 'joustlaw15.FightTells': WHATEVER THE INPUT: true; the input reads as it did. -/
def fightTellsSpec : ChangeSpec := { name := "fightTells", fn := fun _ => fun
  | [d1, d2, d3, d4] => { results := [.lit (.bool true)], args := [d1, d2, d3, d4] }
  | _ => none }
def fightTellsRow : OpenClaim := { program := "ytfdehhibgdeedaa", sum := "e9bd0092703cc898d739dcf62ae989f41bd6cbcc5ba5de262c3389c70fb3b959", func := "joust/joustlaw15.FightTells", spec := "fightTells", unfollowed := true, recurses := true, loops := true, apart := false }
def FightTellsSaid : Prop := fightTellsRow.holds Try.pinned (OpenSpec.ofChange fightTellsSpec)

/-- ITS FALSE NEIGHBOUR: 'it returns false'. Refute it at one input. -/
def fightTellsWrong : ChangeSpec := { name := "fightTells", fn := fun _ => fun
  | [d1, d2, d3, d4] => { results := [.lit (.bool false)], args := [d1, d2, d3, d4] }
  | _ => none }
def FightTellsWrongFalsely : Prop := fightTellsRow.holds Try.pinned (OpenSpec.ofChange fightTellsWrong)

/-- 'joustlaw15.FightFair': WHATEVER THE INPUT: true; the input reads as it did. -/
def fightFairSpec : ChangeSpec := { name := "fightFair", fn := fun _ => fun
  | [d1, d2, d3] => { results := [.lit (.bool true)], args := [d1, d2, d3] }
  | _ => none }
def fightFairRow : OpenClaim := { program := "ytfdehhibgdeedaa", sum := "e9bd0092703cc898d739dcf62ae989f41bd6cbcc5ba5de262c3389c70fb3b959", func := "joust/joustlaw15.FightFair", spec := "fightFair", unfollowed := true, recurses := true, loops := true, apart := false }
def FightFairSaid : Prop := fightFairRow.holds Try.pinned (OpenSpec.ofChange fightFairSpec)

/-- ITS FALSE NEIGHBOUR: 'it returns false'. Refute it at one input. -/
def fightFairWrong : ChangeSpec := { name := "fightFair", fn := fun _ => fun
  | [d1, d2, d3] => { results := [.lit (.bool false)], args := [d1, d2, d3] }
  | _ => none }
def FightFairWrongFalsely : Prop := fightFairRow.holds Try.pinned (OpenSpec.ofChange fightFairWrong)

/-- 'joustlaw15.FightMay': WHATEVER THE INPUT: true; the input reads as it did. -/
def fightMaySpec : ChangeSpec := { name := "fightMay", fn := fun _ => fun
  | [d1, d2] => { results := [.lit (.bool true)], args := [d1, d2] }
  | _ => none }
def fightMayRow : OpenClaim := { program := "ytfdehhibgdeedaa", sum := "e9bd0092703cc898d739dcf62ae989f41bd6cbcc5ba5de262c3389c70fb3b959", func := "joust/joustlaw15.FightMay", spec := "fightMay", unfollowed := true, recurses := true, loops := true, apart := false }
def FightMaySaid : Prop := fightMayRow.holds Try.pinned (OpenSpec.ofChange fightMaySpec)

/-- ITS FALSE NEIGHBOUR: 'it returns false'. Refute it at one input. -/
def fightMayWrong : ChangeSpec := { name := "fightMay", fn := fun _ => fun
  | [d1, d2] => { results := [.lit (.bool false)], args := [d1, d2] }
  | _ => none }
def FightMayWrongFalsely : Prop := fightMayRow.holds Try.pinned (OpenSpec.ofChange fightMayWrong)

/- THE SECOND FORM. 'bulk': how many values and letters a reading holds, each counted each time it is reached (what is shared counts as often as it is met; a slice's spare places count too). A statement '..UptoSaid' is the law's where the arguments, and the package variables that the reading takes, are together of bulk at most 1048576: NARROWER than '..Said'. Prove '..Said' where nothing that the law and all that it calls make is longer than what came in: it says more and counts as full. Else prove '..UptoSaid'. A law counts once. -/
mutual
def uptoBulk {H : Type} : DataW H → Nat
  | .lit (.string bytes) => bytes.length + 1
  | .lit _ => 1
  | .nil => 1
  | .ptr d => uptoBulk d + 1
  | .slice elems spare => uptoBulkAll elems + uptoBulkAll spare + 1
  | .agg parts => uptoBulkAll parts + 1
  | .iface _ d => uptoBulk d + 1
  | .map entries => uptoBulkEntries entries + 1
  | .held _ => 1
def uptoBulkAll {H : Type} : List (DataW H) → Nat
  | [] => 0
  | d :: r => uptoBulk d + uptoBulkAll r
def uptoBulkEntries {H : Type} : List (Lit × DataW H) → Nat
  | [] => 0
  | x :: r => uptoBulkEntry x + uptoBulkEntries r
def uptoBulkEntry {H : Type} : Lit × DataW H → Nat
  | (.string bytes, d) => bytes.length + uptoBulk d + 1
  | (_, d) => uptoBulk d + 1
 end
def uptoSmall : (H : Type) → List (DataW H) → Bool := fun _ ds => decide (uptoBulkAll ds ≤ 1048576)
def OpenSpec.upto (s : _root_.Go.ChangeSpec) : _root_.Go.OpenSpec := { _root_.Go.OpenSpec.ofChange s with cond := some uptoSmall }

/-- 'joustlaw15.FightTells', WHERE WHAT IT READS IS OF BULK AT MOST 1048576: true; the input reads as it did. -/
def fightTellsUptoRow : OpenClaim := { program := "ytfdehhibgdeedaa", sum := "e9bd0092703cc898d739dcf62ae989f41bd6cbcc5ba5de262c3389c70fb3b959", func := "joust/joustlaw15.FightTells", spec := "fightTells", unfollowed := true, recurses := true, loops := true, apart := false, narrowed := true }
def FightTellsUptoSaid : Prop := fightTellsUptoRow.holds Try.pinned (OpenSpec.upto fightTellsSpec)

/-- 'joustlaw15.FightFair', WHERE WHAT IT READS IS OF BULK AT MOST 1048576: true; the input reads as it did. -/
def fightFairUptoRow : OpenClaim := { program := "ytfdehhibgdeedaa", sum := "e9bd0092703cc898d739dcf62ae989f41bd6cbcc5ba5de262c3389c70fb3b959", func := "joust/joustlaw15.FightFair", spec := "fightFair", unfollowed := true, recurses := true, loops := true, apart := false, narrowed := true }
def FightFairUptoSaid : Prop := fightFairUptoRow.holds Try.pinned (OpenSpec.upto fightFairSpec)

/-- 'joustlaw15.FightMay', WHERE WHAT IT READS IS OF BULK AT MOST 1048576: true; the input reads as it did. -/
def fightMayUptoRow : OpenClaim := { program := "ytfdehhibgdeedaa", sum := "e9bd0092703cc898d739dcf62ae989f41bd6cbcc5ba5de262c3389c70fb3b959", func := "joust/joustlaw15.FightMay", spec := "fightMay", unfollowed := true, recurses := true, loops := true, apart := false, narrowed := true }
def FightMayUptoSaid : Prop := fightMayUptoRow.holds Try.pinned (OpenSpec.upto fightMaySpec)

end Rows
end Go.Proofs.Ytfdehhibgdeedaa
