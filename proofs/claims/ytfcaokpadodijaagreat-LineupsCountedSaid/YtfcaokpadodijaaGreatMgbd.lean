/- For every tape of numbers the law LineupsCounted returns true and the tape reads as before: on the slots, players, fills and captain drawn from it, CheckSlots, CheckScorers, CheckFills, Sum, Left and Bench answer as the reference does, which tries all line-ups, and Points answers as the one example says. -/
import Derived.Test.YtfcaokpadodijaaGreatMgai
import Derived.Test.YtfcaokpadodijaaGreatMgbc
namespace Go.Proofs.YtfcaokpadodijaaGreat
open Go.ChangeShapes Go.WideShapes Go.ChangeAt Go.RowKit Go.Shelf Go.Lib

theorem lineupsCounted_reads (os : Os) {H : Type} (enc : TypeId × Value → H) : ∃ places, DataW.whole enc Tryz.prog ((World.laidAll Tryz.prog os []).forCall (fun _ _ => 0) ⟨#[], #[.slice none 0 0], []⟩).memory Tryz.f3.params.toList Rows.lineupsCountedSpec.vars false #[Value.slice none 0 0].toList 8 = some ([.nil], [], places) :=
 ⟨[], by kernel_rfl⟩
set_option maxRecDepth 100000 in
theorem lineupsCounted_lifted (os : Os) (started : os.Started) (H : Type) (enc : TypeId × Value → H) (F : Stop.Interp) :
  ReturnsInHanded {} Tryz.checked os 3 .any ((OpenSpec.ofChange Rows.lineupsCountedSpec).preRow enc Tryz.prog Tryz.f3 Rows.lineupsCountedRow.domain false Rows.lineupsCountedRow.laid) (((OpenSpec.ofChange Rows.lineupsCountedSpec).at F).post enc Tryz.prog Tryz.f3 false true false false) := by
 obtain ⟨places, hx⟩ := lineupsCounted_reads os enc
 refine returnsInHanded_of_row (C := Tryz.checked) (s := OpenSpec.ofChange Rows.lineupsCountedSpec) own started (by kernel_rfl) Tryz.func3
  (witness_row_at (enc := enc) (C := Tryz.checked) false (World.laidAll Tryz.prog os []) #[.slice none 0 0] (World.laidAll_os _ _ _) (by kernel_rfl) (by kernel_rfl) (by kernel_rfl)
   (OpenSpec.preRow_of_cond 8 hx (by kernel_rfl) (fun k hk => by cases hk) (by kernel_rfl) (laidMet_laidAll _ (by kernel_rfl) (by kernel_rfl)))) ?_
 intro W base args ds gs before hval hW _ _ hsz hL hsh _
 exact contract 3 Tryz.f3 rfl rfl Rows.lineupsCountedSpec rfl (fun _ _ => rfl) counted_law H enc W base args ds gs before hval hW _ rfl hsz
set_option maxRecDepth 100000 in
set_option maxHeartbeats 4000000 in
theorem lineupsCounted_facts : joinedFacts Tryz.pinned.checked.prog 3 Tryz.f3 (OpenSpec.ofChange Rows.lineupsCountedSpec).bare Rows.lineupsCountedRow = true := by
 unfold joinedFacts
 repeat (rw [Bool.and_eq_true]; refine ⟨?_, ?_⟩; rotate_left 1; as_aux_lemma => kernel_rfl)
 as_aux_lemma => kernel_rfl
theorem lineupsCounted_holds : Rows.LineupsCountedSaid :=
 OpenClaim.holds_of_cond 3 Tryz.f3 rfl rfl rfl rfl rfl rfl rfl ⟨rfl, rfl, rfl, rfl, rfl⟩ rfl rfl rfl rfl rfl (by kernel_rfl) Tryz.func3 lineupsCounted_facts
  (of_decide_eq_true (by kernel_rfl)) (by unfold Func.isWrapper; first | (rw [if_pos (by decide +kernel)]; kernel_rfl) | (rw [if_neg (by decide +kernel)]; exact ⟨rfl, rfl⟩))
  (fun os started H enc _ F => by rw [OpenClaim.pre_eq_preRow]; exact lineupsCounted_lifted os started H enc F)
end Go.Proofs.YtfcaokpadodijaaGreat
