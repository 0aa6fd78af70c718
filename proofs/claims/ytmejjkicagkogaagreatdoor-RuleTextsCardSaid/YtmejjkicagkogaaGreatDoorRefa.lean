/- The reference's small parts: when, errs, in, Week, only, Key. -/
import Derived.Test.YtmejjkicagkogaaGreatDoorChkp
namespace Go.Proofs.YtmejjkicagkogaaGreatDoor
open Go.RowKit

set_option maxRecDepth 100000 in
set_option maxHeartbeats 400000 in
theorem in_calls (n low high : Int) (w : World) :
    Calls Tryz.prog 29 #[.int .i64 n, .int .i64 low, .int .i64 high] w fun e w' => e = .returned (.bool (betwB n low high)) ∧ w = w' := by
  by_cases h1 : low ≤ n
  · by_cases h2 : n ≤ high
    · go_enter Tryz.func29, Tryz.ntmps29
      go_wp2
      go_ret
      exact ⟨ret_bool (by simp [betwB, h1, h2]), rfl⟩
    · go_enter Tryz.func29, Tryz.ntmps29
      go_wp2
      go_ret
      exact ⟨ret_bool (by simp [betwB, h1, h2]), rfl⟩
  · go_enter Tryz.func29, Tryz.ntmps29
    go_wp2
    go_ret
    exact ⟨ret_bool (by simp [betwB]; omega), rfl⟩
/-- Does a byte stand in a string? -/
def inB (some : ByteArray) (x : Int) : Bool := decide (0 ≤ Lib.indexByte some.data.toList x.toNat.toUInt8)
def onlyB (s some : ByteArray) : Bool := (List.range s.size).all fun i => inB some (byteAt s i)
set_option maxRecDepth 100000 in
set_option maxHeartbeats 1000000 in
theorem only_calls (s some : ByteArray) (w : World) (hsz : s.size ≤ 1000000) :
    Calls Tryz.prog 61 #[.string s, .string some] w fun e w' => e = .returned (.bool (onlyB s some)) ∧ w = w' := by
  go_enter Tryz.func61, Tryz.ntmps61
  go_wp2_with fail
  go_loop [8] (fun i => ∃ k : Nat, k ≤ s.size ∧ i = .int .i64 k ∧ Hid (∀ i, i < k → inB some (byteAt s i) = true)) (fun i => s.size - (intOf i).toNat)
  case atStart => exact ⟨0, Nat.zero_le _, rfl, Lib.hid fun i hi => by omega⟩
  case round =>
    obtain ⟨k, hk, rfl, Hok⟩ := hrel
    by_cases hlt : k < s.size
    · have Hx := Lib.hid (show byteAt s k = (s[k].toNat : Int) by rw [byteAt, dif_pos hlt])
      by_cases hin : inB some (s[k].toNat : Int) = true
      · have e1 : 0 ≤ Lib.indexByte some.data.toList s[k] := by unfold inB at hin; simpa using hin
        have Hnext := Lib.hid (show ∀ i, i < k + 1 → inB some (byteAt s i) = true from fun i hi => by
          rcases Nat.lt_succ_iff_lt_or_eq.1 hi with h' | rfl
          · exact Hok.out i h'
          · rw [Hx.out]; exact hin)
        clear hin
        go_wp2_with fail
        refine (Tryz.strings_IndexByte _ _ _).mono ?_
        rintro e w' ⟨rfl, h⟩
        subst h
        go_wp2_with fail
        go_round
        case rel => exact ⟨k + 1, by omega, by go_num, Hnext⟩
        case measure => simp [intOf]; omega
      · have e1 : Lib.indexByte some.data.toList s[k] < 0 := by unfold inB at hin; simpa using hin
        have Hfail := Lib.hid (show onlyB s some = false by
          unfold onlyB
          rw [List.all_eq_false]
          exact ⟨k, List.mem_range.2 hlt, by rw [Hx.out]; exact hin⟩)
        clear hin
        go_wp2_with fail
        refine (Tryz.strings_IndexByte _ _ _).mono ?_
        rintro e w' ⟨rfl, h⟩
        subst h
        go_wp2_with fail
        go_ret
        exact ⟨ret_bool Hfail.out.symm, rfl⟩
    · obtain rfl : k = s.size := by omega
      have Hall := Lib.hid (show onlyB s some = true by
        unfold onlyB
        rw [List.all_eq_true]
        exact fun i hi => Hok.out i (List.mem_range.1 hi))
      go_wp2_with fail
      go_ret
      exact ⟨ret_bool Hall.out.symm, rfl⟩

def lettersS : ByteArray := ⟨#[97, 98, 99, 100, 101, 102, 103, 104, 105, 106, 107, 108, 109, 110, 111, 112, 113, 114, 115, 116, 117, 118, 119, 120, 121, 122]⟩
def keyS : ByteArray := ⟨#[97, 98, 99, 100, 101, 102, 103, 104, 105, 106, 107, 108, 109, 110, 111, 112, 113, 114, 115, 116, 117, 118, 119, 120, 121, 122, 48, 49, 50, 51, 52, 53, 54, 55, 56, 57, 45, 95]⟩
theorem inB_letters (x : UInt8) : inB lettersS (x.toNat : Int) = smallB (x.toNat : Int) := by
  have h : ∀ x : Fin 256, inB lettersS (x.val : Int) = smallB (x.val : Int) := by decide +kernel
  exact h ⟨x.toNat, x.toNat_lt⟩
theorem inB_key (x : UInt8) : inB keyS (x.toNat : Int) = okC (x.toNat : Int) := by
  have h : ∀ x : Fin 256, inB keyS (x.val : Int) = okC (x.val : Int) := by decide +kernel
  exact h ⟨x.toNat, x.toNat_lt⟩
end Go.Proofs.YtmejjkicagkogaaGreatDoor
