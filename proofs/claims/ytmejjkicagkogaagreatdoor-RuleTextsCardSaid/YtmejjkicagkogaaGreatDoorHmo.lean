/- A condition that is kept up may be made stronger on the way. -/
import Derived.Test.YtmejjkicagkogaaGreatDoorReg
namespace Go.Proofs.YtmejjkicagkogaaGreatDoor
open Go
theorem held_mono {P : Program} {ops : Array Oper} {Q : Exit → Act → World → Prop} {md : Region.Mode} {S S' : World → Prop} (hS : ∀ w, S' w → S w) : ∀ (k : Nat) (listed : Array Bool) (a : Act) (w : World), wpAnyH P md ops Q S' k listed a w → wpAnyH P md ops Q S k listed a w
  | 0, _, _, _, h => h
  | k + 1, _, _, _, h => ⟨h.1, fun i hi => wpOp_mono (fun a w hb => ⟨hS w hb.1, held_mono hS k _ a w hb.2⟩) (h.2 i hi)⟩
end Go.Proofs.YtmejjkicagkogaaGreatDoor
