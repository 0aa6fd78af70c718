/- The row of WorthsTold. -/
import Derived.Test.YtddnnjblpgfjeaaGreatDoorMgbg
import Derived.Test.YtddnnjblpgfjeaaGreatDoorMgbh
/- The reading of WorthsTold lifted into the row's form. -/
namespace Go.Proofs.YtddnnjblpgfjeaaGreatDoor.worthsTold
open Go.ChangeShapes Go.WideShapes Go.ChangeAt Go.RowKit

theorem reads (os : Os) {H : Type} (enc : TypeId × Value → H) : ∃ places, DataW.whole enc Tryz.prog ((World.laidAll Tryz.prog os laidL).forCall (fun _ _ => 0) ⟨#[], #[.slice none 0 0], []⟩).memory Tryz.f4.params.toList Rows.worthsToldSpec.vars false #[Value.slice none 0 0].toList 8 = some ([.nil], [], places) :=
 ⟨[], by kernel_rfl⟩
set_option maxRecDepth 100000 in
theorem lifted (os : Os) (started : os.Started) (H : Type) (enc : TypeId × Value → H) (F : Stop.Interp) :
  ReturnsInHanded {} Tryz.checked os 4 .any ((OpenSpec.ofChange Rows.worthsToldSpec).preRow enc Tryz.prog Tryz.f4 Rows.worthsToldRow.domain false Rows.worthsToldRow.laid) (((OpenSpec.ofChange Rows.worthsToldSpec).at F).post enc Tryz.prog Tryz.f4 false true false false) := by
 obtain ⟨places, hx⟩ := reads os enc
 refine returnsInHanded_of_row (C := Tryz.checked) (s := OpenSpec.ofChange Rows.worthsToldSpec) own started (by kernel_rfl) Tryz.func4
  (witness_row_at (enc := enc) (C := Tryz.checked) false (World.laidAll Tryz.prog os laidL) #[.slice none 0 0] (World.laidAll_os _ _ _) (by kernel_rfl) (by kernel_rfl) (by kernel_rfl)
   (OpenSpec.preRow_of_cond 8 hx (by kernel_rfl) (fun k hk => by cases hk) (by kernel_rfl) (laidMet_laidAll _ (by kernel_rfl) (by kernel_rfl)))) ?_
 intro W base args ds gs before hval hW _ _ hsz hL hsh _
 exact contract 4 Tryz.f4 rfl rfl Rows.worthsToldSpec rfl (fun _ _ => rfl) worths_law H enc W base args ds gs before hval hW hL _ rfl hsz
end Go.Proofs.YtddnnjblpgfjeaaGreatDoor.worthsTold
namespace Go.Proofs.YtddnnjblpgfjeaaGreatDoor.worthsTold
open Go.ChangeShapes Go.WideShapes Go.ChangeAt Go.RowKit

set_option maxRecDepth 100000 in
set_option maxHeartbeats 4000000 in
theorem facts : joinedFacts Tryz.pinned.checked.prog 4 Tryz.f4 (OpenSpec.ofChange Rows.worthsToldSpec).bare Rows.worthsToldRow = true := by
 unfold joinedFacts
 repeat (rw [Bool.and_eq_true]; refine ⟨?_, ?_⟩; rotate_left 1; as_aux_lemma => kernel_rfl)
 as_aux_lemma => kernel_rfl
theorem said : Rows.WorthsToldSaid :=
 OpenClaim.holds_of_cond 4 Tryz.f4 rfl rfl rfl rfl rfl rfl rfl ⟨rfl, rfl, rfl, rfl, rfl⟩ rfl rfl rfl rfl rfl (by kernel_rfl) Tryz.func4 facts
  (of_decide_eq_true (by kernel_rfl)) (by unfold Func.isWrapper; first | (rw [if_pos (by decide +kernel)]; kernel_rfl) | (rw [if_neg (by decide +kernel)]; exact ⟨rfl, rfl⟩))
  (fun os started H enc _ F => by rw [OpenClaim.pre_eq_preRow]; exact lifted os started H enc F)
end Go.Proofs.YtddnnjblpgfjeaaGreatDoor.worthsTold
