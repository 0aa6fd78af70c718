/- How statistics, lines and positions are drawn. -/
import Derived.Test.YtmejjkicagkogaaGreatDoorSco
import Derived.Deep.CutRange
namespace Go.Proofs.YtmejjkicagkogaaGreatDoor
open Go.RowKit

def E_goal : ByteArray := ⟨#[103, 111, 97, 108]⟩
def E_pass : ByteArray := ⟨#[112, 97, 115, 115]⟩
def E_save : ByteArray := ⟨#[115, 97, 118, 101]⟩
def E_yard : ByteArray := ⟨#[121, 97, 114, 100]⟩
def E_none : ByteArray := ⟨#[]⟩
def E_zz : ByteArray := ⟨#[122, 122]⟩
def E_a : ByteArray := ⟨#[97]⟩
def E_ann : ByteArray := ⟨#[97, 110, 110]⟩
theorem info_st : (Tryz.prog.info? 75).map (fun i => (i.zero, i.size, i.bytes)) = some (some (.agg #[.string ⟨#[]⟩, .int .i64 0]), 2, 24) := by kernel_rfl
theorem info_rl : (Tryz.prog.info? 40).map (fun i => (i.zero, i.size, i.bytes)) = some (some (.agg #[.string ⟨#[]⟩, .string ⟨#[]⟩, .string ⟨#[]⟩, .int .i64 0, .int .i64 0, .int .i64 0, .int .i64 0]), 7, 80) := by kernel_rfl
theorem info_ln : (Tryz.prog.info? 78).map (fun i => (i.zero, i.size, i.bytes)) = some (some (.agg #[.string ⟨#[]⟩, .int .i64 0, .slice none 0 0]), 3, 48) := by kernel_rfl

/-- The positions drawn: five at most. -/
def Posits (lo : Nat) (w : World) (v : Value) : Prop := ∃ ks, Strs w lo v ks ∧ ks.length ≤ 5 ∧ ∀ k ∈ ks, k.size ≤ 1000
/-- The statistics drawn: five at most. -/
def SomeTds (lo : Nat) (w : World) (v : Value) : Prop := ∃ ts, Tds w lo v ts ∧ ts.length ≤ 5 ∧ ∀ t ∈ ts, SmallT t
end Go.Proofs.YtmejjkicagkogaaGreatDoor
