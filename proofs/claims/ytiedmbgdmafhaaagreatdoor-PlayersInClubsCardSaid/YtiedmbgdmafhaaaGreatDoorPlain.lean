/- Plain strings: check.Plain and benchref2.Plain. -/
import Derived.Test.YtiedmbgdmafhaaaGreatDoorEach
import Derived.Test.YtiedmbgdmafhaaaGreatDoorOrd
namespace Go.Proofs.YtiedmbgdmafhaaaGreatDoor
open Go.RowKit

/-- What the library's tables hold: they lie in the first blocks. -/
def Glob (w : World) : Prop := Lib.Utf8Tabs 0 1 w ∧ ∃ m : Int, w.cell? ⟨2, 0, none⟩ = some (.int .i64 m)
theorem Glob.below {w w' : World} (h : Glob w) (hb : Below w.heap.size w w') : Glob w' :=
  ⟨Utf8Tabs_below h.1 hb, by obtain ⟨m, hm⟩ := h.2; exact ⟨m, below_cell hb hm⟩⟩
/-- No byte below 32, no 127. -/
def okBytes (s : ByteArray) : Bool := (List.range s.size).all fun i => !(decide (byteAt s i < 32) || byteAt s i == 127)
def plainP (s : ByteArray) : Bool :=
  !Lib.hasPrefix s.data.toList [32] && !Lib.hasSuffix s.data.toList [32] && !Lib.contains s.data.toList [32, 32] && okBytes s && Lib.validD s.data.toList

set_option maxRecDepth 100000 in
set_option maxHeartbeats 2000000 in
theorem plain_calls (s : ByteArray) (w : World) (hsz : s.size ≤ 1000000) (hG : Glob w) :
    Calls Tryz.prog 190 #[.string s] w fun e w' => e = .returned (.bool (plainP s)) ∧ Below w.heap.size w w' := by
  obtain ⟨hT, m, hm⟩ := hG
  have cP : ∀ w, Calls Tryz.prog 222 #[.string s, .string ⟨#[32]⟩] w fun e w' => e = .returned (.bool (Lib.hasPrefix s.data.toList [32])) ∧ w = w' := fun w => (Tryz.strings_HasPrefix s ⟨#[32]⟩ w).mono fun _ _ ⟨h1, h2⟩ => ⟨h1, h2.symm⟩
  have cS : ∀ w, Calls Tryz.prog 245 #[.string s, .string ⟨#[32]⟩] w fun e w' => e = .returned (.bool (Lib.hasSuffix s.data.toList [32])) ∧ w = w' := fun w => (Tryz.strings_HasSuffix s ⟨#[32]⟩ w (by omega)).mono fun _ _ ⟨h1, h2⟩ => ⟨h1, h2.symm⟩
  have cC : Calls Tryz.prog 246 #[.string s, .string ⟨#[32, 32]⟩] w fun e w' => e = .returned (.bool (Lib.contains s.data.toList [32, 32])) ∧ w = w' := (Tryz.strings_Contains s ⟨#[32, 32]⟩ m w (by omega) hm).mono fun _ _ ⟨h1, h2⟩ => ⟨h1, h2.symm⟩
  have cV : Calls Tryz.prog 184 #[.string s] w fun e w' => e = .returned (.bool (Lib.validD s.data.toList)) ∧ Below w.heap.size w w' := Any.utf8_ValidString Tryz.laysValid s w (by omega) hT
  have CP := Lib.hid cP
  have CS := Lib.hid cS
  have CC := Lib.hid cC
  have CV := Lib.hid cV
  clear cP cS cC cV hm hT
  have hpl : plainP s = (!Lib.hasPrefix s.data.toList [32] && !Lib.hasSuffix s.data.toList [32] && !Lib.contains s.data.toList [32, 32] && okBytes s && Lib.validD s.data.toList) := rfl
  generalize Lib.hasPrefix s.data.toList [32] = b1 at CP hpl
  generalize Lib.hasSuffix s.data.toList [32] = b2 at CS hpl
  generalize Lib.contains s.data.toList [32, 32] = b3 at CC hpl
  generalize Lib.validD s.data.toList = b4 at CV hpl
  have Hpl := Lib.hid hpl
  clear hpl
  cases b1
  · cases b2
    · cases b3
      · go_enter Tryz.func190, Tryz.ntmps190
        go_wp2_with fail
        refine (CP.out _).mono ?_
        rintro e w' ⟨rfl, rfl⟩
        go_wp2_with fail
        refine (CS.out _).mono ?_
        rintro e w' ⟨rfl, rfl⟩
        go_wp2_with fail
        refine CC.out.mono ?_
        rintro e w' ⟨rfl, rfl⟩
        go_wp2_with fail
        go_loop [16] (fun i => ∃ k : Nat, k ≤ s.size ∧ i = .int .i64 k ∧ Hid (∀ i, i < k → (decide (byteAt s i < 32) || byteAt s i == 127) = false)) (fun i => s.size - (intOf i).toNat)
        case atStart => exact ⟨0, Nat.zero_le _, rfl, Lib.hid fun i hi => by omega⟩
        case round =>
          obtain ⟨k, hk, rfl, Hok⟩ := hrel
          by_cases hlt : k < s.size
          · have Hx := Lib.hid (show byteAt s k = (s[k].toNat : Int) by rw [byteAt, dif_pos hlt])
            have Hbad := Lib.hid (show (decide ((s[k].toNat : Int) < 32) || (s[k].toNat : Int) == 127) = true → plainP s = false from fun h => by
              have : okBytes s = false := by
                unfold okBytes; rw [List.all_eq_false]
                exact ⟨k, List.mem_range.2 hlt, by rw [Hx.out, h]; simp⟩
              rw [Hpl.out, this]; simp)
            by_cases h32 : (s[k].toNat : Int) < 32
            · have hb := Lib.hid (Hbad.out (by simp [h32]))
              go_wp2_with fail
              go_ret
              exact ⟨ret_bool hb.out.symm, Below.refl _ _⟩
            · by_cases h127 : (s[k].toNat : Int) = 127
              · have hb := Lib.hid (Hbad.out (by simp [h127]))
                have e1 : ((s[k].toNat : Int) == 127) = true := by simp [h127]
                clear h127
                go_wp2_with fail
                go_ret
                exact ⟨ret_bool hb.out.symm, Below.refl _ _⟩
              · have e1 : ((s[k].toNat : Int) == 127) = false := by simp [h127]
                have Hnext := Lib.hid (show ∀ i, i < k + 1 → (decide (byteAt s i < 32) || byteAt s i == 127) = false from fun i hi => by
                  rcases Nat.lt_succ_iff_lt_or_eq.1 hi with h' | rfl
                  · exact Hok.out i h'
                  · rw [Hx.out, e1]; simp; omega)
                clear h127
                go_wp2_with fail
                go_round
                case rel => exact ⟨k + 1, by omega, by go_num, Hnext⟩
                case measure => simp [intOf]; omega
          · obtain rfl : k = s.size := by omega
            have hb := Lib.hid (show plainP s = b4 by
              have : okBytes s = true := by
                unfold okBytes; rw [List.all_eq_true]
                exact fun i hi => by rw [Hok.out i (List.mem_range.1 hi)]; rfl
              rw [Hpl.out, this]; simp)
            go_wp2_with fail
            refine CV.out.mono ?_
            rintro e w' ⟨rfl, hb'⟩
            go_wp2_with fail
            go_ret
            exact ⟨ret_bool hb.out.symm, hb'⟩
      · have hb := Lib.hid (show plainP s = false by rw [Hpl.out]; simp)
        go_enter Tryz.func190, Tryz.ntmps190
        go_wp2_with fail
        refine (CP.out _).mono ?_
        rintro e w' ⟨rfl, rfl⟩
        go_wp2_with fail
        refine (CS.out _).mono ?_
        rintro e w' ⟨rfl, rfl⟩
        go_wp2_with fail
        refine CC.out.mono ?_
        rintro e w' ⟨rfl, rfl⟩
        go_wp2_with fail
        go_ret
        exact ⟨ret_bool hb.out.symm, Below.refl _ _⟩
    · have hb := Lib.hid (show plainP s = false by rw [Hpl.out]; simp)
      go_enter Tryz.func190, Tryz.ntmps190
      go_wp2_with fail
      refine (CP.out _).mono ?_
      rintro e w' ⟨rfl, rfl⟩
      go_wp2_with fail
      refine (CS.out _).mono ?_
      rintro e w' ⟨rfl, rfl⟩
      go_wp2_with fail
      go_ret
      exact ⟨ret_bool hb.out.symm, Below.refl _ _⟩
  · have hb := Lib.hid (show plainP s = false by rw [Hpl.out]; simp)
    go_enter Tryz.func190, Tryz.ntmps190
    go_wp2_with fail
    refine (CP.out _).mono ?_
    rintro e w' ⟨rfl, rfl⟩
    go_wp2_with fail
    go_ret
    exact ⟨ret_bool hb.out.symm, Below.refl _ _⟩
end Go.Proofs.YtiedmbgdmafhaaaGreatDoor
