/- For every tape of numbers the law WeeksTotalled returns true and the tape reads as before: on the rules, positions, lines and window drawn from it, Total answers as the reference does, and Points answers as the one example says. -/
import Derived.Test.YtfcdbjdomfaffaaSrh
namespace Go.Proofs.Ytfcdbjdomfaffaa
open Go.ChangeShapes Go.WideShapes Go.ChangeAt Go.RowKit

set_option maxRecDepth 100000 in
set_option maxHeartbeats 4000000 in
theorem weeks_facts : joinedFacts Try.pinned.checked.prog 3 Try.f3 (OpenSpec.ofChange Rows.weeksTotalledSpec).bare Rows.weeksTotalledRow = true := by
  unfold joinedFacts
  repeat (rw [Bool.and_eq_true]; refine ⟨?_, ?_⟩; rotate_left 1; as_aux_lemma => kernel_rfl)
  as_aux_lemma => kernel_rfl
theorem weeksTotalled_holds : Rows.WeeksTotalledSaid :=
  OpenClaim.holds_of_cond 3 Try.f3 rfl rfl rfl rfl rfl rfl rfl ⟨rfl, rfl, rfl, rfl, rfl⟩ rfl rfl rfl rfl rfl (by kernel_rfl) Try.func3 weeks_facts
    (of_decide_eq_true (by kernel_rfl)) (by unfold Func.isWrapper; first | (rw [if_pos (by decide +kernel)]; kernel_rfl) | (rw [if_neg (by decide +kernel)]; exact ⟨rfl, rfl⟩))
    (fun os started H enc _ F => by rw [OpenClaim.pre_eq_preRow]; exact weeks_lifted os started H enc F)
end Go.Proofs.Ytfcdbjdomfaffaa
