/- The row of TeamsFielded. -/
import Derived.Test.YtddnnjblpgfjeaaGreatDoorMgbh
import Derived.Test.YtddnnjblpgfjeaaGreatDoorMgbi
/- The reading of TeamsFielded lifted into the row's form. -/
namespace Go.Proofs.YtddnnjblpgfjeaaGreatDoor.teamsFielded
open Go.ChangeShapes Go.WideShapes Go.ChangeAt Go.RowKit

theorem reads (os : Os) {H : Type} (enc : TypeId × Value → H) : ∃ places, DataW.whole enc Tryz.prog ((World.laidAll Tryz.prog os laidL).forCall (fun _ _ => 0) ⟨#[], #[.slice none 0 0], []⟩).memory Tryz.f5.params.toList Rows.teamsFieldedSpec.vars false #[Value.slice none 0 0].toList 8 = some ([.nil], [], places) :=
 ⟨[], by kernel_rfl⟩
set_option maxRecDepth 100000 in
theorem lifted (os : Os) (started : os.Started) (H : Type) (enc : TypeId × Value → H) (F : Stop.Interp) :
  ReturnsInHanded {} Tryz.checked os 5 .any ((OpenSpec.ofChange Rows.teamsFieldedSpec).preRow enc Tryz.prog Tryz.f5 Rows.teamsFieldedRow.domain false Rows.teamsFieldedRow.laid) (((OpenSpec.ofChange Rows.teamsFieldedSpec).at F).post enc Tryz.prog Tryz.f5 false true false false) := by
 obtain ⟨places, hx⟩ := reads os enc
 refine returnsInHanded_of_row (C := Tryz.checked) (s := OpenSpec.ofChange Rows.teamsFieldedSpec) own started (by kernel_rfl) Tryz.func5
  (witness_row_at (enc := enc) (C := Tryz.checked) false (World.laidAll Tryz.prog os laidL) #[.slice none 0 0] (World.laidAll_os _ _ _) (by kernel_rfl) (by kernel_rfl) (by kernel_rfl)
   (OpenSpec.preRow_of_cond 8 hx (by kernel_rfl) (fun k hk => by cases hk) (by kernel_rfl) (laidMet_laidAll _ (by kernel_rfl) (by kernel_rfl)))) ?_
 intro W base args ds gs before hval hW _ _ hsz hL hsh _
 exact contract 5 Tryz.f5 rfl rfl Rows.teamsFieldedSpec rfl (fun _ _ => rfl) teams_law H enc W base args ds gs before hval hW hL _ rfl hsz
end Go.Proofs.YtddnnjblpgfjeaaGreatDoor.teamsFielded
namespace Go.Proofs.YtddnnjblpgfjeaaGreatDoor.teamsFielded
open Go.ChangeShapes Go.WideShapes Go.ChangeAt Go.RowKit

set_option maxRecDepth 100000 in
set_option maxHeartbeats 4000000 in
theorem facts : joinedFacts Tryz.pinned.checked.prog 5 Tryz.f5 (OpenSpec.ofChange Rows.teamsFieldedSpec).bare Rows.teamsFieldedRow = true := by
 unfold joinedFacts
 repeat (rw [Bool.and_eq_true]; refine ⟨?_, ?_⟩; rotate_left 1; as_aux_lemma => kernel_rfl)
 as_aux_lemma => kernel_rfl
theorem said : Rows.TeamsFieldedSaid :=
 OpenClaim.holds_of_cond 5 Tryz.f5 rfl rfl rfl rfl rfl rfl rfl ⟨rfl, rfl, rfl, rfl, rfl⟩ rfl rfl rfl rfl rfl (by kernel_rfl) Tryz.func5 facts
  (of_decide_eq_true (by kernel_rfl)) (by unfold Func.isWrapper; first | (rw [if_pos (by decide +kernel)]; kernel_rfl) | (rw [if_neg (by decide +kernel)]; exact ⟨rfl, rfl⟩))
  (fun os started H enc _ F => by rw [OpenClaim.pre_eq_preRow]; exact lifted os started H enc F)
end Go.Proofs.YtddnnjblpgfjeaaGreatDoor.teamsFielded
