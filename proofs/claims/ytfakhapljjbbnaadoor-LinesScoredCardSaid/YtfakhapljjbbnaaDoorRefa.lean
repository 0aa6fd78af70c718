/- The reference's small parts: when, errs, in, Week, only, Key. -/
import Derived.Test.YtfakhapljjbbnaaDoorChkp
namespace Go.Proofs.YtfakhapljjbbnaaDoor
open Go.RowKit

set_option maxRecDepth 100000 in
set_option maxHeartbeats 1000000 in
theorem errs_calls (g off cap : Nat) (xs : List Int) (w : World) (hn : xs.length ≤ 1000000) (hc : NumsAt w g off xs) :
    Calls Tryd.prog 10 #[.slice (some ⟨g, off, none⟩) xs.length cap] w fun e w' => e = .returned (.int .i64 (firstE xs)) ∧ w = w' := by
  have Hc := Lib.hid hc
  clear hc
  go_enter Tryd.func10, Tryd.ntmps10
  go_wp2_with fail
  go_loop [7] (fun i => ∃ k : Nat, k ≤ xs.length ∧ i = .int .i64 k ∧ Hid (∀ (i : Nat) (y : Int), i < k → xs[i]? = some y → y = 0)) (fun i => xs.length - (intOf i).toNat)
  case atStart => exact ⟨0, Nat.zero_le _, rfl, Lib.hid fun i y hi => by omega⟩
  case round =>
    obtain ⟨k, hk, rfl, H0⟩ := hrel
    by_cases hlt : k < xs.length
    · obtain ⟨x, hx⟩ : ∃ x, xs[k]? = some x := ⟨xs[k], List.getElem?_eq_getElem hlt⟩
      have hcell := Hc.out k x hx
      have Hx := Lib.hid hx
      clear hx
      by_cases hz : x = 0
      · subst hz
        go_wp2_with fail
        go_round
        case rel => exact ⟨k + 1, by omega, by go_num, Lib.hid fun i y hi hy => by
          rcases Nat.lt_succ_iff_lt_or_eq.1 hi with h | rfl
          · exact H0.out i y h hy
          · rw [Hx.out] at hy; exact (Option.some.inj hy).symm⟩
        case measure => simp [intOf]; omega
      · have e1 : (x != 0) = true := by simp [hz]
        have Hz := Lib.hid hz
        clear hz
        go_wp2_with fail
        go_ret
        exact ⟨ret_int (firstE_hit Hx.out H0.out Hz.out).symm, rfl⟩
    · obtain rfl : k = xs.length := by omega
      go_wp2_with fail
      go_ret
      exact ⟨ret_int (firstE_none fun i y hy => H0.out i y (List.getElem?_eq_some_iff.1 hy).1 hy).symm, rfl⟩

set_option maxRecDepth 100000 in
set_option maxHeartbeats 400000 in
theorem in_calls (n low high : Int) (w : World) :
    Calls Tryd.prog 35 #[.int .i64 n, .int .i64 low, .int .i64 high] w fun e w' => e = .returned (.bool (betwB n low high)) ∧ w = w' := by
  by_cases h1 : low ≤ n
  · by_cases h2 : n ≤ high
    · go_enter Tryd.func35, Tryd.ntmps35
      go_wp2
      go_ret
      exact ⟨ret_bool (by simp [betwB, h1, h2]), rfl⟩
    · go_enter Tryd.func35, Tryd.ntmps35
      go_wp2
      go_ret
      exact ⟨ret_bool (by simp [betwB, h1, h2]), rfl⟩
  · go_enter Tryd.func35, Tryd.ntmps35
    go_wp2
    go_ret
    exact ⟨ret_bool (by simp [betwB]; omega), rfl⟩
set_option maxHeartbeats 400000 in
theorem weekR_calls (n : Int) (w : World) :
    Calls Tryd.prog 38 #[.int .i64 n] w fun e w' => e = .returned (.bool (betwB n 1 60)) ∧ w = w' := by
  go_enter Tryd.func38, Tryd.ntmps38
  go_wp2_with fail
  refine (in_calls n 1 60 w).mono ?_
  rintro e w' ⟨rfl, rfl⟩
  go_wp2_with fail
  go_ret
  exact ⟨rfl, rfl⟩

/-- Does a byte stand in a string? -/
def inB (some : ByteArray) (x : Int) : Bool := decide (0 ≤ Lib.indexByte some.data.toList x.toNat.toUInt8)
def onlyB (s some : ByteArray) : Bool := (List.range s.size).all fun i => inB some (byteAt s i)
set_option maxRecDepth 100000 in
set_option maxHeartbeats 1000000 in
theorem only_calls (s some : ByteArray) (w : World) (hsz : s.size ≤ 1000000) :
    Calls Tryd.prog 61 #[.string s, .string some] w fun e w' => e = .returned (.bool (onlyB s some)) ∧ w = w' := by
  go_enter Tryd.func61, Tryd.ntmps61
  go_wp2_with fail
  go_loop [8] (fun i => ∃ k : Nat, k ≤ s.size ∧ i = .int .i64 k ∧ Hid (∀ i, i < k → inB some (byteAt s i) = true)) (fun i => s.size - (intOf i).toNat)
  case atStart => exact ⟨0, Nat.zero_le _, rfl, Lib.hid fun i hi => by omega⟩
  case round =>
    obtain ⟨k, hk, rfl, Hok⟩ := hrel
    by_cases hlt : k < s.size
    · have Hx := Lib.hid (show byteAt s k = (s[k].toNat : Int) by rw [byteAt, dif_pos hlt])
      by_cases hin : inB some (s[k].toNat : Int) = true
      · have e1 : 0 ≤ Lib.indexByte some.data.toList s[k] := by unfold inB at hin; simpa using hin
        have Hnext := Lib.hid (show ∀ i, i < k + 1 → inB some (byteAt s i) = true from fun i hi => by
          rcases Nat.lt_succ_iff_lt_or_eq.1 hi with h' | rfl
          · exact Hok.out i h'
          · rw [Hx.out]; exact hin)
        clear hin
        go_wp2_with fail
        refine (Tryd.strings_IndexByte _ _ _).mono ?_
        rintro e w' ⟨rfl, h⟩
        subst h
        go_wp2_with fail
        go_round
        case rel => exact ⟨k + 1, by omega, by go_num, Hnext⟩
        case measure => simp [intOf]; omega
      · have e1 : Lib.indexByte some.data.toList s[k] < 0 := by unfold inB at hin; simpa using hin
        have Hfail := Lib.hid (show onlyB s some = false by
          unfold onlyB
          rw [List.all_eq_false]
          exact ⟨k, List.mem_range.2 hlt, by rw [Hx.out]; exact hin⟩)
        clear hin
        go_wp2_with fail
        refine (Tryd.strings_IndexByte _ _ _).mono ?_
        rintro e w' ⟨rfl, h⟩
        subst h
        go_wp2_with fail
        go_ret
        exact ⟨ret_bool Hfail.out.symm, rfl⟩
    · obtain rfl : k = s.size := by omega
      have Hall := Lib.hid (show onlyB s some = true by
        unfold onlyB
        rw [List.all_eq_true]
        exact fun i hi => Hok.out i (List.mem_range.1 hi))
      go_wp2_with fail
      go_ret
      exact ⟨ret_bool Hall.out.symm, rfl⟩

def lettersS : ByteArray := ⟨#[97, 98, 99, 100, 101, 102, 103, 104, 105, 106, 107, 108, 109, 110, 111, 112, 113, 114, 115, 116, 117, 118, 119, 120, 121, 122]⟩
def keyS : ByteArray := ⟨#[97, 98, 99, 100, 101, 102, 103, 104, 105, 106, 107, 108, 109, 110, 111, 112, 113, 114, 115, 116, 117, 118, 119, 120, 121, 122, 48, 49, 50, 51, 52, 53, 54, 55, 56, 57, 45, 95]⟩
theorem inB_letters (x : UInt8) : inB lettersS (x.toNat : Int) = smallB (x.toNat : Int) := by
  have h : ∀ x : Fin 256, inB lettersS (x.val : Int) = smallB (x.val : Int) := by decide +kernel
  exact h ⟨x.toNat, x.toNat_lt⟩
theorem inB_key (x : UInt8) : inB keyS (x.toNat : Int) = okC (x.toNat : Int) := by
  have h : ∀ x : Fin 256, inB keyS (x.val : Int) = okC (x.val : Int) := by decide +kernel
  exact h ⟨x.toNat, x.toNat_lt⟩
end Go.Proofs.YtfakhapljjbbnaaDoor
