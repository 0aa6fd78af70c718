/- Walks of package check: numbers and keys. -/
import Derived.Test.YtmejjkicagkogaaGreatDoorRows
import Derived.Test.YtmejjkicagkogaaGreatDoorLib
import Derived.Test.YtmejjkicagkogaaGreatDoorShelf
namespace Go.Proofs.YtmejjkicagkogaaGreatDoor
open Go.RowKit

def smallB (x : Int) : Bool := decide (97 ≤ x) && decide (x ≤ 122)
def digitB (x : Int) : Bool := decide (48 ≤ x) && decide (x ≤ 57)
def betwB (n low high : Int) : Bool := decide (low ≤ n) && decide (n ≤ high)
/-- The error unless something is right. -/
def unlessE (b : Bool) (e : Int) : Int := if b then 0 else e
/-- The first error of some. -/
def firstE : List Int → Int
  | [] => 0
  | e :: es => if e = 0 then firstE es else e

set_option maxRecDepth 100000 in
set_option maxHeartbeats 400000 in
theorem small_calls (x : Int) (w : World) :
    Calls Tryz.prog 77 #[.int .u8 x] w fun e w' => e = .returned (.bool (smallB x)) ∧ w = w' := by
  by_cases h1 : 97 ≤ x
  · by_cases h2 : x ≤ 122
    · go_enter Tryz.func77, Tryz.ntmps77
      go_wp2
      go_ret
      exact ⟨ret_bool (by simp [smallB, h1, h2]), rfl⟩
    · go_enter Tryz.func77, Tryz.ntmps77
      go_wp2
      go_ret
      exact ⟨ret_bool (by simp [smallB, h1, h2]), rfl⟩
  · go_enter Tryz.func77, Tryz.ntmps77
    go_wp2
    go_ret
    exact ⟨ret_bool (by simp [smallB]; omega), rfl⟩
set_option maxRecDepth 100000 in
set_option maxHeartbeats 400000 in
theorem digit_calls (x : Int) (w : World) :
    Calls Tryz.prog 78 #[.int .u8 x] w fun e w' => e = .returned (.bool (digitB x)) ∧ w = w' := by
  by_cases h1 : 48 ≤ x
  · by_cases h2 : x ≤ 57
    · go_enter Tryz.func78, Tryz.ntmps78
      go_wp2
      go_ret
      exact ⟨ret_bool (by simp [digitB, h1, h2]), rfl⟩
    · go_enter Tryz.func78, Tryz.ntmps78
      go_wp2
      go_ret
      exact ⟨ret_bool (by simp [digitB, h1, h2]), rfl⟩
  · go_enter Tryz.func78, Tryz.ntmps78
    go_wp2
    go_ret
    exact ⟨ret_bool (by simp [digitB]; omega), rfl⟩
set_option maxRecDepth 100000 in
set_option maxHeartbeats 400000 in
theorem between_calls (n low high : Int) (w : World) :
    Calls Tryz.prog 52 #[.int .i64 n, .int .i64 low, .int .i64 high] w fun e w' => e = .returned (.bool (betwB n low high)) ∧ w = w' := by
  by_cases h1 : low ≤ n
  · by_cases h2 : n ≤ high
    · go_enter Tryz.func52, Tryz.ntmps52
      go_wp2
      go_ret
      exact ⟨ret_bool (by simp [betwB, h1, h2]), rfl⟩
    · go_enter Tryz.func52, Tryz.ntmps52
      go_wp2
      go_ret
      exact ⟨ret_bool (by simp [betwB, h1, h2]), rfl⟩
  · go_enter Tryz.func52, Tryz.ntmps52
    go_wp2
    go_ret
    exact ⟨ret_bool (by simp [betwB]; omega), rfl⟩
set_option maxHeartbeats 400000 in
theorem week_calls (n : Int) (w : World) :
    Calls Tryz.prog 90 #[.int .i64 n] w fun e w' => e = .returned (.bool (betwB n 1 60)) ∧ w = w' := by
  go_enter Tryz.func90, Tryz.ntmps90
  go_wp2_with fail
  refine (between_calls n 1 60 w).mono ?_
  rintro e w' ⟨rfl, rfl⟩
  go_wp2_with fail
  go_ret
  exact ⟨rfl, rfl⟩
set_option maxHeartbeats 400000 in
theorem unless_calls (b : Bool) (x : Int) (w : World) :
    Calls Tryz.prog 50 #[.bool b, .int .i64 x] w fun e w' => e = .returned (.int .i64 (unlessE b x)) ∧ w = w' := by
  cases b
  · go_enter Tryz.func50, Tryz.ntmps50
    go_wp2
    go_ret
    exact ⟨rfl, rfl⟩
  · go_enter Tryz.func50, Tryz.ntmps50
    go_wp2
    go_ret
    exact ⟨rfl, rfl⟩
theorem strCompare_calls (a b : ByteArray) (w : World) :
    Calls Tryz.prog 134 #[.string a, .string b] w fun e w' => e = .returned (.int .i64 (Lib.compareBytes a.data.toList b.data.toList)) ∧ w = w' :=
  (Tryz.strings_Compare a b w).mono fun _ _ ⟨h1, h2⟩ => ⟨h1, h2.symm⟩

/-- May a byte stand in a key? -/
def okC (x : Int) : Bool := smallB x || digitB x || x == 45 || x == 95
/-- The byte at a place, as a number. -/
def byteAt (s : ByteArray) (i : Nat) : Int := if h : i < s.size then (s[i].toNat : Int) else 0
def keyB (s : ByteArray) : Bool := decide (1 ≤ s.size) && decide (s.size ≤ 40) && smallB (byteAt s 0) && (List.range s.size).all fun i => okC (byteAt s i)

theorem empty_of (s : ByteArray) : s.toList.isEmpty = decide (s.size = 0) := by
  rw [← decide_eq_emptyBytes]
  by_cases h : s.size = 0
  · have : s = ByteArray.empty := by
      cases s with | mk a => exact congrArg ByteArray.mk (Array.eq_empty_of_size_eq_zero h)
    simp [this]
  · have : s ≠ ByteArray.empty := fun e => h (by rw [e]; rfl)
    simp [this, h]

set_option maxRecDepth 100000 in
set_option maxHeartbeats 2000000 in
theorem key_calls (s : ByteArray) (w : World) (hsz : s.size ≤ 1000000) :
    Calls Tryz.prog 51 #[.string s] w fun e w' => e = .returned (.bool (keyB s)) ∧ w = w' := by
  by_cases h0 : s.size = 0
  · have he : s.toList.isEmpty = true := by rw [empty_of]; simp [h0]
    have hk := Lib.hid (show keyB s = false by simp [keyB, h0])
    clear h0
    go_enter Tryz.func51, Tryz.ntmps51
    go_wp2
    go_ret
    exact ⟨ret_bool hk.out.symm, rfl⟩
  · have he : s.toList.isEmpty = false := by rw [empty_of]; simp [h0]
    have hpos : 0 < s.size := by omega
    by_cases h40 : s.size ≤ 40
    · have hc : ∃ b, smallB (s[0].toNat : Int) = b := ⟨_, rfl⟩
      obtain ⟨b, hb⟩ := hc
      have Hb := Lib.hid hb
      have Hb0 := Lib.hid (show smallB (byteAt s 0) = b by rw [byteAt, dif_pos hpos]; exact hb)
      clear hb
      cases b
      · have hk := Lib.hid (show keyB s = false by simp [keyB, Hb0.out])
        go_enter Tryz.func51, Tryz.ntmps51
        go_wp2_with fail
        refine (small_calls _ w).mono ?_
        rintro e w' ⟨rfl, rfl⟩
        rw [Hb.out]
        go_wp2_with fail
        go_ret
        exact ⟨ret_bool hk.out.symm, rfl⟩
      · go_enter Tryz.func51, Tryz.ntmps51
        go_wp2_with fail
        refine (small_calls _ w).mono ?_
        rintro e w' ⟨rfl, rfl⟩
        rw [Hb.out]
        go_wp2_with fail
        go_loop [19] (fun i => ∃ k : Nat, k ≤ s.size ∧ i = .int .i64 k ∧ Hid (∀ i, i < k → okC (byteAt s i) = true)) (fun i => s.size - (intOf i).toNat)
        case atStart => exact ⟨0, Nat.zero_le _, rfl, Lib.hid fun i hi => by omega⟩
        case round =>
          obtain ⟨k, hk, rfl, Hok⟩ := hrel
          by_cases hlt : k < s.size
          · obtain ⟨b1, hb1⟩ : ∃ b, smallB (s[k].toNat : Int) = b := ⟨_, rfl⟩
            have Hx := Lib.hid (show byteAt s k = (s[k].toNat : Int) by rw [byteAt, dif_pos hlt])
            have Hnext := Lib.hid (show okC (s[k].toNat : Int) = true → ∀ i, i < k + 1 → okC (byteAt s i) = true from fun h i hi => by
              rcases Nat.lt_succ_iff_lt_or_eq.1 hi with h' | rfl
              · exact Hok.out i h'
              · rw [Hx.out]; exact h)
            have Hfail := Lib.hid (show okC (s[k].toNat : Int) = false → keyB s = false from fun h => by
              unfold keyB
              rw [Bool.and_eq_false_iff]; right
              rw [List.all_eq_false]
              exact ⟨k, List.mem_range.2 hlt, by rw [Hx.out, h]; simp⟩)
            have H1 := Lib.hid hb1
            clear hb1
            cases b1
            · obtain ⟨b2, hb2⟩ : ∃ b, digitB (s[k].toNat : Int) = b := ⟨_, rfl⟩
              have H2 := Lib.hid hb2
              clear hb2
              cases b2
              · by_cases h45 : (s[k].toNat : Int) = 45
                · have e1 : ((s[k].toNat : Int) != 45) = false := by simp [h45]
                  have Hgo := Lib.hid (Hnext.out (by simp [okC, h45]))
                  clear h45
                  go_wp2_with fail
                  refine (small_calls _ w).mono ?_
                  rintro e w' ⟨rfl, rfl⟩
                  rw [H1.out]
                  go_wp2_with fail
                  refine (digit_calls _ w).mono ?_
                  rintro e w' ⟨rfl, rfl⟩
                  rw [H2.out]
                  go_wp2_with fail
                  go_round
                  case rel => exact ⟨k + 1, by omega, by go_num, Hgo⟩
                  case measure => simp [intOf]; omega
                · have e1 : ((s[k].toNat : Int) != 45) = true := by simpa using h45
                  by_cases h95 : (s[k].toNat : Int) = 95
                  · have e2 : ((s[k].toNat : Int) != 95) = false := by simp [h95]
                    have Hgo := Lib.hid (Hnext.out (by simp [okC, h95]))
                    clear h45 h95
                    go_wp2_with fail
                    refine (small_calls _ w).mono ?_
                    rintro e w' ⟨rfl, rfl⟩
                    rw [H1.out]
                    go_wp2_with fail
                    refine (digit_calls _ w).mono ?_
                    rintro e w' ⟨rfl, rfl⟩
                    rw [H2.out]
                    go_wp2_with fail
                    go_round
                    case rel => exact ⟨k + 1, by omega, by go_num, Hgo⟩
                    case measure => simp [intOf]; omega
                  · have e2 : ((s[k].toNat : Int) != 95) = true := by simpa using h95
                    have Hgo := Lib.hid (Hfail.out (by simp [okC, H1.out, H2.out, h45, h95]))
                    clear h45 h95
                    go_wp2_with fail
                    refine (small_calls _ w).mono ?_
                    rintro e w' ⟨rfl, rfl⟩
                    rw [H1.out]
                    go_wp2_with fail
                    refine (digit_calls _ w).mono ?_
                    rintro e w' ⟨rfl, rfl⟩
                    rw [H2.out]
                    go_wp2_with fail
                    go_ret
                    exact ⟨ret_bool Hgo.out.symm, rfl⟩
              · have Hgo := Lib.hid (Hnext.out (by simp [okC, H2.out]))
                go_wp2_with fail
                refine (small_calls _ w).mono ?_
                rintro e w' ⟨rfl, rfl⟩
                rw [H1.out]
                go_wp2_with fail
                refine (digit_calls _ w).mono ?_
                rintro e w' ⟨rfl, rfl⟩
                rw [H2.out]
                go_wp2_with fail
                go_round
                case rel => exact ⟨k + 1, by omega, by go_num, Hgo⟩
                case measure => simp [intOf]; omega
            · have Hgo := Lib.hid (Hnext.out (by simp [okC, H1.out]))
              go_wp2_with fail
              refine (small_calls _ w).mono ?_
              rintro e w' ⟨rfl, rfl⟩
              rw [H1.out]
              go_wp2_with fail
              go_round
              case rel => exact ⟨k + 1, by omega, by go_num, Hgo⟩
              case measure => simp [intOf]; omega
          · obtain rfl : k = s.size := by omega
            have Hgo := Lib.hid (show keyB s = true by
              unfold keyB
              rw [Hb0.out, List.all_eq_true.2 fun i hi => Hok.out i (List.mem_range.1 hi)]
              simp [h40]; omega)
            go_wp2_with fail
            go_ret
            exact ⟨ret_bool Hgo.out.symm, rfl⟩
    · have hk := Lib.hid (show keyB s = false by simp [keyB, h40])
      go_enter Tryz.func51, Tryz.ntmps51
      go_wp2
      go_ret
      exact ⟨ret_bool hk.out.symm, rfl⟩
end Go.Proofs.YtmejjkicagkogaaGreatDoor
