/- Layer 2 (parse): what is handed back of effects and cards. -/
import Derived.Test.YtaffgdgdojdoiaaGreatDoorParMany
namespace Go.Proofs.YtaffgdgdojdoiaaGreatDoor
open Go.RowKit Go.Lib

/-- An effect is handed back. -/
def EfEnds (p : Par Ef) (E : Env) (s : RS) (w : World) (e : Ending) (w' : World) : Prop := ∃ (x : Ef) (ca : Option Addr) (cn cc : Nat) (va : Option Addr) (vn vc : Nat) (s' : RS),
  e = .returned (.agg #[.int .u8 x.mode, .int .u8 x.ev, .int .u8 x.side, .slice ca cn cc, .int .i64 x.pay, .int .i64 x.discard, .bool x.tribute, .int .i64 x.pick, .int .u8 x.sel.side, .int .u8 x.sel.zone, .int .u8 x.sel.kind, .slice va vn vc]) ∧ EfAt w' (From w.heap.size) (efV x (.slice ca cn cc) (.slice va vn vc)) x ∧ Res p s x s' ∧ Goes w E s' 0 w'
/-- A card is handed back. -/
def CdEnds (p : Par Cd) (E : Env) (s : RS) (w : World) (e : Ending) (w' : World) : Prop := ∃ (x : Cd) (va : Option Addr) (vn vc : Nat) (s' : RS),
  e = .returned (.agg #[.string x.name, .int .u8 x.kind, .int .i64 x.level, .int .i64 x.attack, .int .i64 x.guard, .slice va vn vc]) ∧ CdAt w' (From w.heap.size) (cdV x (.slice va vn vc)) x ∧ Res p s x s' ∧ Goes w E s' 0 w'

end Go.Proofs.YtaffgdgdojdoiaaGreatDoor
