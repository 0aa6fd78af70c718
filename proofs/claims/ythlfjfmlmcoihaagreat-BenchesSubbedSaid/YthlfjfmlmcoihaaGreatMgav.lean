/- The reference's ListFault and PlayersFault. -/
import Derived.Test.YthlfjfmlmcoihaaGreatMgan
namespace Go.Proofs.YthlfjfmlmcoihaaGreat
open Go.RowKit

def lfE (need : Bool) (ks : List ByteArray) : Int := if need && decide (ks.length = 0) then 8 else eachE ks.length 10 (risF ks)
set_option maxRecDepth 100000 in
set_option maxHeartbeats 1000000 in
theorem listFault_calls (need : Bool) (lo : Nat) (v : Value) (ks : List ByteArray) (w : World) (hv : Strs w lo v ks) (hk : ∀ k ∈ ks, k.size ≤ 1000) (hn : ks.length ≤ 1000000) :
    Calls Tryz.prog 64 #[v, .bool need] w fun e w' => e = .returned (.int .i64 (lfE need ks)) ∧ w = w' := by
  obtain ⟨a, c, rfl⟩ := strs_shape' hv
  have HC := Lib.hid (risingR_calls lo _ ks w hv hk hn)
  clear hv hk
  by_cases h10 : 10 < ks.length
  · have HE := Lib.hid (show lfE need ks = 2 by
      unfold lfE eachE
      rw [decide_eq_false (show ¬ ks.length = 0 by omega), if_pos (show (10 : Int) < ks.length by omega)]
      cases need <;> rfl)
    cases need <;>
    · go_enter Tryz.func64, Tryz.ntmps64
      go_wp2_with fail
      go_ret
      exact ⟨ret_int HE.out.symm, rfl⟩
  · have HX := Lib.hid (show eachE ks.length 10 (risF ks) = errsTo (risF ks) ks.length by unfold eachE; rw [if_neg (by omega)]; rfl)
    cases need
    · have HE := Lib.hid (show lfE false ks = errsTo (risF ks) ks.length by rw [← HX.out]; rfl)
      go_enter Tryz.func64, Tryz.ntmps64
      go_wp2_with fail
      refine HC.out.mono ?_
      rintro e w' ⟨rfl, rfl⟩
      go_wp2_with fail
      go_ret
      exact ⟨ret_int HE.out.symm, rfl⟩
    · by_cases h0 : ks.length = 0
      · have HE := Lib.hid (show lfE true ks = 8 by unfold lfE; rw [decide_eq_true h0]; rfl)
        have h0' : ((ks.length : Int) == 0) = true := by rw [beq_iff_eq]; omega
        go_enter Tryz.func64, Tryz.ntmps64
        go_wp2_with fail
        go_ret
        exact ⟨ret_int HE.out.symm, rfl⟩
      · have HE := Lib.hid (show lfE true ks = errsTo (risF ks) ks.length by
          rw [← HX.out]; unfold lfE; rw [decide_eq_false h0]; rfl)
        have h0' : ((ks.length : Int) == 0) = false := by rw [beq_eq_false_iff_ne]; omega
        clear h0
        go_enter Tryz.func64, Tryz.ntmps64
        go_wp2_with fail
        refine HC.out.mono ?_
        rintro e w' ⟨rfl, rfl⟩
        go_wp2_with fail
        go_ret
        exact ⟨ret_int HE.out.symm, rfl⟩

theorem lt_empty {s : ByteArray} (h : keyB s = true) : ltS ⟨#[]⟩ s = true := by
  unfold keyB at h
  simp only [Bool.and_eq_true, decide_eq_true_eq] at h
  unfold ltS
  rw [ByteArray.toList_eq, ByteArray.toList_eq]
  cases hs : s.data.toList with
  | nil =>
    have := h.1.1.1
    have e : s.size = 0 := by
      show s.data.size = 0
      rw [← Array.length_toList, hs]; rfl
    omega
  | cons => rfl
end Go.Proofs.YthlfjfmlmcoihaaGreat
