/- For every tape of numbers the law LineupsBest returns true and the tape reads as before: on the slots, players and names drawn from it, CheckSlots, CheckScorers, Best, Can and Lacking answer as the reference does, which tries all line-ups. -/
import Derived.Test.YtfcaokpadodijaaGreatMgai
import Derived.Test.YtfcaokpadodijaaGreatMgbd
namespace Go.Proofs.YtfcaokpadodijaaGreat
open Go.ChangeShapes Go.WideShapes Go.ChangeAt Go.RowKit Go.Shelf Go.Lib

theorem lineupsBest_reads (os : Os) {H : Type} (enc : TypeId × Value → H) : ∃ places, DataW.whole enc Tryz.prog ((World.laidAll Tryz.prog os []).forCall (fun _ _ => 0) ⟨#[], #[.slice none 0 0], []⟩).memory Tryz.f4.params.toList Rows.lineupsBestSpec.vars false #[Value.slice none 0 0].toList 8 = some ([.nil], [], places) :=
 ⟨[], by kernel_rfl⟩
set_option maxRecDepth 100000 in
theorem lineupsBest_lifted (os : Os) (started : os.Started) (H : Type) (enc : TypeId × Value → H) (F : Stop.Interp) :
  ReturnsInHanded {} Tryz.checked os 4 .any ((OpenSpec.ofChange Rows.lineupsBestSpec).preRow enc Tryz.prog Tryz.f4 Rows.lineupsBestRow.domain false Rows.lineupsBestRow.laid) (((OpenSpec.ofChange Rows.lineupsBestSpec).at F).post enc Tryz.prog Tryz.f4 false true false false) := by
 obtain ⟨places, hx⟩ := lineupsBest_reads os enc
 refine returnsInHanded_of_row (C := Tryz.checked) (s := OpenSpec.ofChange Rows.lineupsBestSpec) own started (by kernel_rfl) Tryz.func4
  (witness_row_at (enc := enc) (C := Tryz.checked) false (World.laidAll Tryz.prog os []) #[.slice none 0 0] (World.laidAll_os _ _ _) (by kernel_rfl) (by kernel_rfl) (by kernel_rfl)
   (OpenSpec.preRow_of_cond 8 hx (by kernel_rfl) (fun k hk => by cases hk) (by kernel_rfl) (laidMet_laidAll _ (by kernel_rfl) (by kernel_rfl)))) ?_
 intro W base args ds gs before hval hW _ _ hsz hL hsh _
 exact contract 4 Tryz.f4 rfl rfl Rows.lineupsBestSpec rfl (fun _ _ => rfl) best_law H enc W base args ds gs before hval hW _ rfl hsz
set_option maxRecDepth 100000 in
set_option maxHeartbeats 4000000 in
theorem lineupsBest_facts : joinedFacts Tryz.pinned.checked.prog 4 Tryz.f4 (OpenSpec.ofChange Rows.lineupsBestSpec).bare Rows.lineupsBestRow = true := by
 unfold joinedFacts
 repeat (rw [Bool.and_eq_true]; refine ⟨?_, ?_⟩; rotate_left 1; as_aux_lemma => kernel_rfl)
 as_aux_lemma => kernel_rfl
theorem lineupsBest_holds : Rows.LineupsBestSaid :=
 OpenClaim.holds_of_cond 4 Tryz.f4 rfl rfl rfl rfl rfl rfl rfl ⟨rfl, rfl, rfl, rfl, rfl⟩ rfl rfl rfl rfl rfl (by kernel_rfl) Tryz.func4 lineupsBest_facts
  (of_decide_eq_true (by kernel_rfl)) (by unfold Func.isWrapper; first | (rw [if_pos (by decide +kernel)]; kernel_rfl) | (rw [if_neg (by decide +kernel)]; exact ⟨rfl, rfl⟩))
  (fun os started H enc _ F => by rw [OpenClaim.pre_eq_preRow]; exact lineupsBest_lifted os started H enc F)
end Go.Proofs.YtfcaokpadodijaaGreat
