/- The reading of PlayersFielded lifted into the row's form. -/
import Derived.Test.YtiedmbgdmafhaaaGreatDoorLaw6
import Derived.Test.YtiedmbgdmafhaaaGreatDoorDoor
namespace Go.Proofs.YtiedmbgdmafhaaaGreatDoor.playersFielded
open Go.ChangeShapes Go.WideShapes Go.ChangeAt Go.RowKit

theorem reads (os : Os) {H : Type} (enc : TypeId × Value → H) : ∃ places, DataW.whole enc Tryz.prog ((World.laidAll Tryz.prog os laidL).forCall (fun _ _ => 0) ⟨#[], #[.slice none 0 0], []⟩).memory Tryz.f4.params.toList Rows.playersFieldedSpec.vars false #[Value.slice none 0 0].toList 8 = some ([.nil], [], places) :=
  ⟨[], by kernel_rfl⟩
set_option maxRecDepth 100000 in
theorem lifted (os : Os) (started : os.Started) (H : Type) (enc : TypeId × Value → H) (F : Stop.Interp) :
    ReturnsInHanded {} Tryz.checked os 4 .any ((OpenSpec.ofChange Rows.playersFieldedSpec).preRow enc Tryz.prog Tryz.f4 Rows.playersFieldedRow.domain false Rows.playersFieldedRow.laid) (((OpenSpec.ofChange Rows.playersFieldedSpec).at F).post enc Tryz.prog Tryz.f4 false true false false) := by
  obtain ⟨places, hx⟩ := reads os enc
  refine returnsInHanded_of_row (C := Tryz.checked) (s := OpenSpec.ofChange Rows.playersFieldedSpec) own started (by kernel_rfl) Tryz.func4
    (witness_row_at (enc := enc) (C := Tryz.checked) false (World.laidAll Tryz.prog os laidL) #[.slice none 0 0] (World.laidAll_os _ _ _) (by kernel_rfl) (by kernel_rfl) (by kernel_rfl)
      (OpenSpec.preRow_of_cond 8 hx (by kernel_rfl) (fun k hk => by cases hk) (by kernel_rfl) (laidMet_laidAll _ (by kernel_rfl) (by kernel_rfl)))) ?_
  intro W base args ds gs before hval hW _ _ hsz hL hsh _
  exact contract 4 Tryz.f4 rfl rfl Rows.playersFieldedSpec rfl (fun _ _ => rfl) law6 H enc W base args ds gs before hval hW hL hsh _ rfl hsz
end Go.Proofs.YtiedmbgdmafhaaaGreatDoor.playersFielded
