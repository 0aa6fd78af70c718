/- The reference's Key, Rising, ListFault. -/
import Derived.Test.YtmejjkicagkogaaGreatDoorRefa
namespace Go.Proofs.YtmejjkicagkogaaGreatDoor
open Go.RowKit

def headS (s : ByteArray) : ByteArray := s.extract 0 1
theorem onlyB_key (s : ByteArray) : onlyB s keyS = (List.range s.size).all fun i => okC (byteAt s i) := by
  unfold onlyB
  apply Bool.eq_iff_iff.2
  rw [List.all_eq_true, List.all_eq_true]
  constructor
  · intro h i hi
    have := h i hi
    rw [byteAt, dif_pos (List.mem_range.1 hi)] at this ⊢
    rwa [inB_key] at this
  · intro h i hi
    have := h i hi
    rw [byteAt, dif_pos (List.mem_range.1 hi)] at this ⊢
    rwa [inB_key]
theorem headS_size {s : ByteArray} (h : 1 ≤ s.size) : (headS s).size = 1 := by
  unfold headS; rw [ByteArray.size_extract]; omega
theorem onlyB_head {s : ByteArray} (h : 1 ≤ s.size) : onlyB (headS s) lettersS = smallB (byteAt s 0) := by
  have hs := headS_size h
  unfold onlyB
  rw [hs]
  have e : byteAt (headS s) 0 = byteAt s 0 := by
    rw [byteAt, byteAt, dif_pos (by omega), dif_pos (by omega)]
    unfold headS
    rw [ByteArray.getElem_extract]
  simp only [List.range_one, List.all_cons, List.all_nil, Bool.and_true, e]
  rw [byteAt, dif_pos (by omega)]
  exact inB_letters _
set_option maxRecDepth 100000 in
set_option maxHeartbeats 1000000 in
theorem keyR_calls (s : ByteArray) (w : World) (hsz : s.size ≤ 1000000) :
    Calls Tryz.prog 28 #[.string s] w fun e w' => e = .returned (.bool (keyB s)) ∧ w = w' := by
  by_cases h1 : betwB (s.size : Int) 1 40 = true
  · have hr : 1 ≤ s.size ∧ s.size ≤ 40 := by unfold betwB at h1; simp at h1; omega
    have HK := Lib.hid (show keyB s = (onlyB (headS s) lettersS && onlyB s keyS) by
      rw [onlyB_head hr.1, onlyB_key, keyB, decide_eq_true hr.1, decide_eq_true hr.2]; rfl)
    have HH := Lib.hid (headS_size hr.1)
    obtain ⟨h1', h2'⟩ := hr
    have H1 := Lib.hid h1
    clear h1
    by_cases h2 : onlyB (headS s) lettersS = true
    · have H2 := Lib.hid h2
      clear h2
      go_enter Tryz.func28, Tryz.ntmps28
      go_wp2_with fail
      refine (in_calls _ _ _ _).mono ?_
      rintro e w' ⟨rfl, rfl⟩
      rw [H1.out]
      go_wp2_with fail
      refine (only_calls (headS s) lettersS _ (by rw [HH.out]; omega)).mono ?_
      rintro e w' ⟨rfl, rfl⟩
      rw [H2.out]
      go_wp2_with fail
      refine (only_calls s keyS _ hsz).mono ?_
      rintro e w' ⟨rfl, rfl⟩
      go_wp2_with fail
      go_ret
      exact ⟨ret_bool (by rw [HK.out, H2.out]; rfl), rfl⟩
    · have H2 := Lib.hid (show onlyB (headS s) lettersS = false by simpa using h2)
      clear h2
      go_enter Tryz.func28, Tryz.ntmps28
      go_wp2_with fail
      refine (in_calls _ _ _ _).mono ?_
      rintro e w' ⟨rfl, rfl⟩
      rw [H1.out]
      go_wp2_with fail
      refine (only_calls (headS s) lettersS _ (by rw [HH.out]; omega)).mono ?_
      rintro e w' ⟨rfl, rfl⟩
      rw [H2.out]
      go_wp2_with fail
      go_ret
      exact ⟨ret_bool (by rw [HK.out, H2.out]; rfl), rfl⟩
  · have H1 := Lib.hid (show betwB (s.size : Int) 1 40 = false by simpa using h1)
    have HK := Lib.hid (show keyB s = false by
      unfold betwB at h1
      simp only [Bool.and_eq_true, decide_eq_true_eq, not_and, Int.not_le] at h1
      unfold keyB
      by_cases h : 1 ≤ s.size
      · have := h1 (by omega)
        rw [decide_eq_false (show ¬ s.size ≤ 40 by omega)]; simp
      · rw [decide_eq_false h]; simp)
    clear h1
    go_enter Tryz.func28, Tryz.ntmps28
    go_wp2_with fail
    refine (in_calls _ _ _ _).mono ?_
    rintro e w' ⟨rfl, rfl⟩
    rw [H1.out]
    go_wp2_with fail
    go_ret
    exact ⟨ret_bool HK.out.symm, rfl⟩

/-- The program's and the reference's order of a list. -/
theorem risF_key {ks : List ByteArray} {k : Nat} {s : ByteArray} (hk : ks[k]? = some s) (h : keyB s = false) : risF ks k = 5 := by
  have e : strAt ks k = s := by unfold strAt; rw [hk]; rfl
  unfold risF
  rw [e, h]
  simp [unlessE, firstE]
theorem risF_fall {ks : List ByteArray} {k : Nat} {s p : ByteArray} (hk : ks[k]? = some s) (hp : ks[k - 1]? = some p) (h : keyB s = true) (h0 : k ≠ 0) (hl : ltS p s = false) : risF ks k = 7 := by
  have e : strAt ks k = s := by unfold strAt; rw [hk]; rfl
  have e' : strAt ks (k - 1) = p := by unfold strAt; rw [hp]; rfl
  unfold risF
  rw [e, e', h, hl]
  simp [unlessE, firstE, h0]
theorem risF_ok {ks : List ByteArray} {k : Nat} {s : ByteArray} (hk : ks[k]? = some s) (h : keyB s = true) (hl : k = 0 ∨ ∃ p, ks[k - 1]? = some p ∧ ltS p s = true) : risF ks k = 0 := by
  have e : strAt ks k = s := by unfold strAt; rw [hk]; rfl
  unfold risF
  rw [e, h]
  rcases hl with rfl | ⟨p, hp, hl⟩
  · simp [unlessE, firstE]
  · have e' : strAt ks (k - 1) = p := by unfold strAt; rw [hp]; rfl
    rw [e', hl]
    simp [unlessE, firstE]

end Go.Proofs.YtmejjkicagkogaaGreatDoor
