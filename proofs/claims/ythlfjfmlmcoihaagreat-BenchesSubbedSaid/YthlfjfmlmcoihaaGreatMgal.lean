/- check.Rising and CheckPlayers. -/
import Derived.Test.YthlfjfmlmcoihaaGreatMgak
import Derived.Deep.Cut
import Derived.Test.YthlfjfmlmcoihaaGreatMgaj
namespace Go.Proofs.YthlfjfmlmcoihaaGreat
open Go.RowKit

theorem strs_shape' {w : World} {lo : Nat} {v : Value} {ks : List ByteArray} (h : Strs w lo v ks) : ∃ a c, v = .slice a ks.length c := by
  rcases strs_at h with ⟨rfl, rfl⟩ | ⟨g, off, cap, rfl, _⟩
  · exact ⟨none, 0, rfl⟩
  · exact ⟨_, _, rfl⟩
set_option maxRecDepth 100000 in
set_option maxHeartbeats 1000000 in
theorem rising_calls (lo : Nat) (v : Value) (ks : List ByteArray) (most : Int) (w : World) (hv : Strs w lo v ks) (hk : ∀ k ∈ ks, k.size ≤ 1000) (hn : ks.length ≤ 1000000) :
    Calls Tryz.prog 125 #[v, .int .i64 most] w (IntBelow (eachE ks.length most (risF ks)) w) := by
  obtain ⟨a, c, rfl⟩ := strs_shape' hv
  have hf : ∀ (W : World) (i : Nat), i < ks.length → Below (w.alloc (.cells #[.slice a ks.length c] 39)).heap.size (w.alloc (.cells #[.slice a ks.length c] 39)) W → Calls Tryz.prog 146 (#[.int .i64 (i : Int)] ++ #[.pointer (some ⟨w.heap.size, 0, none⟩)]) W (IntBelow (risF ks i) W) := by
    intro W i hi hb
    have hvW := (hv.below (below_alloc w (.cells #[.slice a ks.length c] 39))).below hb
    rcases strs_at hvW with ⟨_, rfl⟩ | ⟨g, off, cap, e, _, _, _, hc⟩
    · simp at hi
    · obtain ⟨k, hki⟩ : ∃ k, ks[i]? = some k := ⟨ks[i], List.getElem?_eq_getElem hi⟩
      refine rising1_calls w.heap.size g off cap i ks k W hki (by have := hk k (List.mem_of_getElem? hki); omega) hn ?_ hc
      rw [← e]
      exact below_cell hb (by rw [World.cell?_alloc_at _ _ _ _ rfl]; rfl)
  have Hf := Lib.hid hf
  clear hf hv
  go_enter Tryz.func125, Tryz.ntmps125
  go_wp2_with fail
  refine (each_calls 146 #[.pointer (some ⟨w.heap.size, 0, none⟩)] (enters_of Tryz.func146 (by kernel_rfl) rfl) (risF ks) ks.length most _ hn Hf.out).mono ?_
  rintro e w' ⟨rfl, hb⟩
  go_wp2_with fail
  go_ret
  exact ⟨rfl, (below_alloc w _).trans (hb.mono (by simp))⟩

theorem nums4' (w : World) (T : Nat) (a b c d : Int) : NumsAt (w.alloc (.cells #[.int .i64 a, .int .i64 b, .int .i64 c, .int .i64 d] T)) w.heap.size 0 [a, b, c, d] := by
  intro i x hx
  rw [World.cell?_alloc_at _ _ _ _ rfl]
  match i, hx with
  | 0, hx => simp at hx; subst hx; rfl
  | 1, hx => simp at hx; subst hx; rfl
  | 2, hx => simp at hx; subst hx; rfl
  | 3, hx => simp at hx; subst hx; rfl
theorem nums5 (w : World) (T : Nat) (a b c d e : Int) : NumsAt (w.alloc (.cells #[.int .i64 a, .int .i64 b, .int .i64 c, .int .i64 d, .int .i64 e] T)) w.heap.size 0 [a, b, c, d, e] := by
  intro i x hx
  rw [World.cell?_alloc_at _ _ _ _ rfl]
  match i, hx with
  | 0, hx => simp at hx; subst hx; rfl
  | 1, hx => simp at hx; subst hx; rfl
  | 2, hx => simp at hx; subst hx; rfl
  | 3, hx => simp at hx; subst hx; rfl
  | 4, hx => simp at hx; subst hx; rfl

end Go.Proofs.YthlfjfmlmcoihaaGreat
