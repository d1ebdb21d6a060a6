import Derived.Test.YtmhpopkbmnhkkaaGreatDoorQRpStep
/- joustref02: a step, by its word. -/
namespace Go.Proofs.YtmhpopkbmnhkkaaGreatDoor
open Go.RowKit Go.Lib

theorem Res.closed {ts : List Tok} {f : Par St} {s s1 s2 : RS} {x : St} (h : Res f s x s1) (k : Res (pMark ts ⟨#[59]⟩) s1 () s2) : Res (pClosed ts f) s x s2 := Res.bind h (Res.map (fun _ => x) k)

end Go.Proofs.YtmhpopkbmnhkkaaGreatDoor
