/- Plain facts on the strings that the law draws. -/
import Derived.Test.YtiedmbgdmafhaaaGreatDoorFindb
namespace Go.Proofs.YtiedmbgdmafhaaaGreatDoor
open Go.RowKit
instance (s : ByteArray) : Decidable (NameOk s) := inferInstanceAs (Decidable (_ ∧ _ ∧ _))
instance (s : ByteArray) : Decidable (WordsOk s) := inferInstanceAs (Decidable (_ ∧ _ ∧ _ ∧ _))
def namesAll : List ByteArray := sixNames ++ badNames
theorem names_ok : ∀ s ∈ namesAll, NameOk s := by decide +kernel
theorem words_ok : ∀ s ∈ namesAll, WordsOk s := by decide +kernel
theorem names_small : ∀ s ∈ namesAll, s.size ≤ 1000 := by decide +kernel
def Q0 : ByteArray := ⟨#[109, 32, 109, 97]⟩
def N0 : ByteArray := ⟨#[77, 97, 120, 32, 77, 97, 114, 116, 105, 110]⟩
def P0 : List PD := [⟨⟨#[97]⟩, N0, [⟨#[100, 102]⟩]⟩]
theorem q0_ok : WordsOk Q0 ∧ WordsOk N0 := by decide +kernel
theorem p0_e : findE P0 Q0 = 0 := by decide +kernel
theorem p0_r : findR P0 Q0 = [⟨#[97]⟩] := by decide +kernel
end Go.Proofs.YtiedmbgdmafhaaaGreatDoor
