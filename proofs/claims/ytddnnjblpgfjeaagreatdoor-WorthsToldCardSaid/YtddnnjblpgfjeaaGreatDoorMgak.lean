/- Walks of what makes players and stints out of the stream. -/
import Derived.Test.YtddnnjblpgfjeaaGreatDoorMgaj
import Derived.Laws.OwnMore
import Derived.Deep.Onto
namespace Go.Proofs.YtddnnjblpgfjeaaGreatDoor
open Go.RowKit

theorem info_str : (Tryz.prog.info? 9).map (fun i => (i.zero, i.size, i.bytes)) = some (some (.string ⟨#[]⟩), 1, 16) := by kernel_rfl

def S_df : ByteArray := ⟨#[100, 102]⟩
def S_gk : ByteArray := ⟨#[103, 107]⟩
def S_mf : ByteArray := ⟨#[109, 102]⟩
/-- What a maker answers: a value that has P in the world behind it; the stream has moved on. -/
def Made (B N : Nat) (P : World → Value → Prop) (w : World) (e : Ending) (w' : World) : Prop := ∃ v, P w' v ∧ e = .returned v ∧ St w' B N ∧ w.grownBy w' (some B)

theorem strs_shape {w : World} {lo : Nat} {v : Value} {ks : List ByteArray} (h : Strs w lo v ks) : ∃ a c, v = .slice a ks.length c := by
 rcases strs_at h with ⟨rfl, rfl⟩ | ⟨g, off, cap, rfl, _⟩
 ·exact ⟨none, 0, rfl⟩
 ·exact ⟨_, _, rfl⟩
end Go.Proofs.YtddnnjblpgfjeaaGreatDoor
