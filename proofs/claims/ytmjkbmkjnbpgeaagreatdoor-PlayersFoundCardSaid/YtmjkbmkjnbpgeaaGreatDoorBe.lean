/- Plain strings: check.Plain and benchref2.Plain. title and benchref2.Plain. -/
import Derived.Test.YtmjkbmkjnbpgeaaGreatDoorBd
import Derived.Test.YtmjkbmkjnbpgeaaGreatDoorBo
namespace Go.Proofs.YtmjkbmkjnbpgeaaGreatDoor
open Go.RowKit

/-- What the library's tables hold: they lie in the first blocks. -/
def Glob (w : World) : Prop := Lib.Utf8Tabs 0 1 w ∧ ∃ m : Int, w.cell? ⟨2, 0, none⟩ = some (.int .i64 m)
theorem Glob.below {w w' : World} (h : Glob w) (hb : Below w.heap.size w w') : Glob w' :=
  ⟨Utf8Tabs_below h.1 hb, by obtain ⟨m, hm⟩ := h.2; exact ⟨m, below_cell hb hm⟩⟩
/-- No byte below 32, no 127. -/
def okBytes (s : ByteArray) : Bool := (List.range s.size).all fun i => !(decide (byteAt s i < 32) || byteAt s i == 127)
def plainP (s : ByteArray) : Bool :=
  !Lib.hasPrefix s.data.toList [32] && !Lib.hasSuffix s.data.toList [32] && !Lib.contains s.data.toList [32, 32] && okBytes s && Lib.validD s.data.toList

set_option maxRecDepth 100000 in
set_option maxHeartbeats 2000000 in
theorem plain_calls (s : ByteArray) (w : World) (hsz : s.size ≤ 1000000) (hG : Glob w) :
    Calls Tryz.prog 159 #[.string s] w fun e w' => e = .returned (.bool (plainP s)) ∧ Below w.heap.size w w' := by
  obtain ⟨hT, m, hm⟩ := hG
  have cP : ∀ w, Calls Tryz.prog 192 #[.string s, .string ⟨#[32]⟩] w fun e w' => e = .returned (.bool (Lib.hasPrefix s.data.toList [32])) ∧ w = w' := fun w => (Tryz.strings_HasPrefix s ⟨#[32]⟩ w).mono fun _ _ ⟨h1, h2⟩ => ⟨h1, h2.symm⟩
  have cS : ∀ w, Calls Tryz.prog 199 #[.string s, .string ⟨#[32]⟩] w fun e w' => e = .returned (.bool (Lib.hasSuffix s.data.toList [32])) ∧ w = w' := fun w => (Tryz.strings_HasSuffix s ⟨#[32]⟩ w (by omega)).mono fun _ _ ⟨h1, h2⟩ => ⟨h1, h2.symm⟩
  have cC : Calls Tryz.prog 200 #[.string s, .string ⟨#[32, 32]⟩] w fun e w' => e = .returned (.bool (Lib.contains s.data.toList [32, 32])) ∧ w = w' := (Tryz.strings_Contains s ⟨#[32, 32]⟩ m w (by omega) hm).mono fun _ _ ⟨h1, h2⟩ => ⟨h1, h2.symm⟩
  have cV : Calls Tryz.prog 153 #[.string s] w fun e w' => e = .returned (.bool (Lib.validD s.data.toList)) ∧ Below w.heap.size w w' := Any.utf8_ValidString Tryz.laysValid s w (by omega) hT
  have CP := Lib.hid cP
  have CS := Lib.hid cS
  have CC := Lib.hid cC
  have CV := Lib.hid cV
  clear cP cS cC cV hm hT
  have hpl : plainP s = (!Lib.hasPrefix s.data.toList [32] && !Lib.hasSuffix s.data.toList [32] && !Lib.contains s.data.toList [32, 32] && okBytes s && Lib.validD s.data.toList) := rfl
  generalize Lib.hasPrefix s.data.toList [32] = b1 at CP hpl
  generalize Lib.hasSuffix s.data.toList [32] = b2 at CS hpl
  generalize Lib.contains s.data.toList [32, 32] = b3 at CC hpl
  generalize Lib.validD s.data.toList = b4 at CV hpl
  have Hpl := Lib.hid hpl
  clear hpl
  cases b1
  · cases b2
    · cases b3
      · go_enter Tryz.func159, Tryz.ntmps159
        go_wp2_with fail
        refine (CP.out _).mono ?_
        rintro e w' ⟨rfl, rfl⟩
        go_wp2_with fail
        refine (CS.out _).mono ?_
        rintro e w' ⟨rfl, rfl⟩
        go_wp2_with fail
        refine CC.out.mono ?_
        rintro e w' ⟨rfl, rfl⟩
        go_wp2_with fail
        go_loop [16] (fun i => ∃ k : Nat, k ≤ s.size ∧ i = .int .i64 k ∧ Hid (∀ i, i < k → (decide (byteAt s i < 32) || byteAt s i == 127) = false)) (fun i => s.size - (intOf i).toNat)
        case atStart => exact ⟨0, Nat.zero_le _, rfl, Lib.hid fun i hi => by omega⟩
        case round =>
          obtain ⟨k, hk, rfl, Hok⟩ := hrel
          by_cases hlt : k < s.size
          · have Hx := Lib.hid (show byteAt s k = (s[k].toNat : Int) by rw [byteAt, dif_pos hlt])
            have Hbad := Lib.hid (show (decide ((s[k].toNat : Int) < 32) || (s[k].toNat : Int) == 127) = true → plainP s = false from fun h => by
              have : okBytes s = false := by
                unfold okBytes; rw [List.all_eq_false]
                exact ⟨k, List.mem_range.2 hlt, by rw [Hx.out, h]; simp⟩
              rw [Hpl.out, this]; simp)
            by_cases h32 : (s[k].toNat : Int) < 32
            · have hb := Lib.hid (Hbad.out (by simp [h32]))
              go_wp2_with fail
              go_ret
              exact ⟨ret_bool hb.out.symm, Below.refl _ _⟩
            · by_cases h127 : (s[k].toNat : Int) = 127
              · have hb := Lib.hid (Hbad.out (by simp [h127]))
                have e1 : ((s[k].toNat : Int) == 127) = true := by simp [h127]
                clear h127
                go_wp2_with fail
                go_ret
                exact ⟨ret_bool hb.out.symm, Below.refl _ _⟩
              · have e1 : ((s[k].toNat : Int) == 127) = false := by simp [h127]
                have Hnext := Lib.hid (show ∀ i, i < k + 1 → (decide (byteAt s i < 32) || byteAt s i == 127) = false from fun i hi => by
                  rcases Nat.lt_succ_iff_lt_or_eq.1 hi with h' | rfl
                  · exact Hok.out i h'
                  · rw [Hx.out, e1]; simp; omega)
                clear h127
                go_wp2_with fail
                go_round
                case rel => exact ⟨k + 1, by omega, by go_num, Hnext⟩
                case measure => simp [intOf]; omega
          · obtain rfl : k = s.size := by omega
            have hb := Lib.hid (show plainP s = b4 by
              have : okBytes s = true := by
                unfold okBytes; rw [List.all_eq_true]
                exact fun i hi => by rw [Hok.out i (List.mem_range.1 hi)]; rfl
              rw [Hpl.out, this]; simp)
            go_wp2_with fail
            refine CV.out.mono ?_
            rintro e w' ⟨rfl, hb'⟩
            go_wp2_with fail
            go_ret
            exact ⟨ret_bool hb.out.symm, hb'⟩
      · have hb := Lib.hid (show plainP s = false by rw [Hpl.out]; simp)
        go_enter Tryz.func159, Tryz.ntmps159
        go_wp2_with fail
        refine (CP.out _).mono ?_
        rintro e w' ⟨rfl, rfl⟩
        go_wp2_with fail
        refine (CS.out _).mono ?_
        rintro e w' ⟨rfl, rfl⟩
        go_wp2_with fail
        refine CC.out.mono ?_
        rintro e w' ⟨rfl, rfl⟩
        go_wp2_with fail
        go_ret
        exact ⟨ret_bool hb.out.symm, Below.refl _ _⟩
    · have hb := Lib.hid (show plainP s = false by rw [Hpl.out]; simp)
      go_enter Tryz.func159, Tryz.ntmps159
      go_wp2_with fail
      refine (CP.out _).mono ?_
      rintro e w' ⟨rfl, rfl⟩
      go_wp2_with fail
      refine (CS.out _).mono ?_
      rintro e w' ⟨rfl, rfl⟩
      go_wp2_with fail
      go_ret
      exact ⟨ret_bool hb.out.symm, Below.refl _ _⟩
  · have hb := Lib.hid (show plainP s = false by rw [Hpl.out]; simp)
    go_enter Tryz.func159, Tryz.ntmps159
    go_wp2_with fail
    refine (CP.out _).mono ?_
    rintro e w' ⟨rfl, rfl⟩
    go_wp2_with fail
    go_ret
    exact ⟨ret_bool hb.out.symm, Below.refl _ _⟩
end Go.Proofs.YtmjkbmkjnbpgeaaGreatDoor
namespace Go.Proofs.YtmjkbmkjnbpgeaaGreatDoor
open Go.RowKit

def titleB (s : ByteArray) : Bool := decide (s.size ≠ 0) && decide (s.size ≤ 60) && plainP s

set_option maxRecDepth 100000 in
set_option maxHeartbeats 1000000 in
theorem title_calls (s : ByteArray) (w : World) (hsz : s.size ≤ 1000000) (hG : Glob w) :
    Calls Tryz.prog 87 #[.string s] w fun e w' => e = .returned (.bool (titleB s)) ∧ Below w.heap.size w w' := by
  by_cases h0 : s.size = 0
  · have he : s.toList.isEmpty = true := by rw [empty_of]; simp [h0]
    have hk := Lib.hid (show titleB s = false by simp [titleB, h0])
    clear h0 hG
    go_enter Tryz.func87, Tryz.ntmps87
    go_wp2
    go_ret
    exact ⟨ret_bool hk.out.symm, Below.refl _ _⟩
  · have he : s.toList.isEmpty = false := by rw [empty_of]; simp [h0]
    by_cases h60 : s.size ≤ 60
    · have hk := Lib.hid (show titleB s = plainP s by simp [titleB, h0, h60])
      go_enter Tryz.func87, Tryz.ntmps87
      go_wp2_with fail
      refine (plain_calls s w hsz hG).mono ?_
      rintro e w' ⟨rfl, hb⟩
      go_wp2_with fail
      go_ret
      exact ⟨ret_bool hk.out.symm, hb⟩
    · have hk := Lib.hid (show titleB s = false by simp [titleB, h60])
      clear hG
      go_enter Tryz.func87, Tryz.ntmps87
      go_wp2
      go_ret
      exact ⟨ret_bool hk.out.symm, Below.refl _ _⟩

/-- The words of a string put together again. -/
def rejoin (s : ByteArray) : List UInt8 := Lib.join ((Lib.goFieldsP (fun x => decide (x = 32)) s).map (·.data.toList)) [32]
def plainQ (s : ByteArray) : Bool := Lib.validD s.data.toList && (s.toList == rejoin s) && okBytes s

set_option maxRecDepth 100000 in
set_option maxHeartbeats 400000 in
theorem blank_calls (x : Nat) (w : World) :
    Calls Tryz.prog 155 #[.int .i32 (x : Int)] w fun e w' => e = .returned (.bool (decide (x = 32))) ∧ w = w' := by
  by_cases h : x = 32
  · have e1 : ((x : Int) == 32) = true := by rw [beq_iff_eq]; omega
    have hd := Lib.hid (decide_eq_true h)
    clear h
    go_enter Tryz.func155, Tryz.ntmps155
    go_wp2
    go_ret
    exact ⟨ret_bool hd.out.symm, rfl⟩
  · have e1 : ((x : Int) == 32) = false := by rw [beq_eq_false_iff_ne]; omega
    have hd := Lib.hid (decide_eq_false h)
    clear h
    go_enter Tryz.func155, Tryz.ntmps155
    go_wp2
    go_ret
    exact ⟨ret_bool hd.out.symm, rfl⟩
theorem fields_calls (s : ByteArray) (w : World) (hs : s.size ≤ 1000000) :
    Calls Tryz.prog 154 #[.string s, .func (.func 155) #[] #[]] w fun e w' => ∃ v, e = .returned v ∧ w'.ownsRow w.heap.size 9 1 v (Lib.goFieldsP (fun x => decide (x = 32)) s).length ((Lib.goFieldsP (fun x => decide (x = 32)) s).map Value.string) ∧ Below w.heap.size w w' ∧ ∃ A, v = .slice (some ⟨A, 0, none⟩) (Lib.goFieldsP (fun x => decide (x = 32)) s).length (Lib.goFieldsP (fun x => decide (x = 32)) s).length := by
  have hp : PredGrows Tryz.prog 155 #[] (fun x => decide (x = 32)) w := fun W x _ _ => (blank_calls x W).mono fun _ _ ⟨h1, h2⟩ => ⟨h1, by subst h2; exact Below.refl _ _⟩
  refine (Tryz.strings_FieldsFunc_grows 155 #[] (enters_of Tryz.func155 (by kernel_rfl) rfl) (fun x => decide (x = 32)) s w (by omega) hp).mono ?_
  rintro e w' ⟨A, h1, h2, h3, h4⟩
  exact ⟨_, h1, h3, h4, A, rfl⟩
theorem join_calls (s : ByteArray) (v : Value) (base : Nat) (w : World) (hv : w.ownsRow base 9 1 v (Lib.goFieldsP (fun x => decide (x = 32)) s).length ((Lib.goFieldsP (fun x => decide (x = 32)) s).map Value.string))
    (hA : ∃ A, v = .slice (some ⟨A, 0, none⟩) (Lib.goFieldsP (fun x => decide (x = 32)) s).length (Lib.goFieldsP (fun x => decide (x = 32)) s).length) (hn : (Lib.goFieldsP (fun x => decide (x = 32)) s).length ≤ 1000000) (hj : (rejoin s).length ≤ 1000000) :
    Calls Tryz.prog 132 #[v, .string ⟨#[32]⟩] w fun e w' => e = .returned (.string ⟨(rejoin s).toArray⟩) ∧ Below w.heap.size w w' := by
  obtain ⟨A, rfl⟩ := hA
  unfold rejoin at hj ⊢
  generalize Lib.goFieldsP (fun x => decide (x = 32)) s = xs at *
  obtain ⟨_, cur, hcur⟩ := own_block hv A rfl
  have hS : Strs w base _ xs := strs_of_owns hv hn
  rcases strs_at hS with ⟨h, _⟩ | ⟨g, off, cap, e, _, _, _, hc⟩
  · cases h
  · simp only [Value.slice.injEq, Option.some.injEq, Addr.mk.injEq, and_true, true_and] at e
    obtain ⟨⟨rfl, rfl⟩, _⟩ := e
    exact Tryz.strings_Join A 0 xs.length xs ⟨#[32]⟩ w (fun j x hx => hc j x hx) (lt_of_heap hcur) (by omega) (Nat.le_refl _) (by simpa using Nat.le_trans hj (by omega))

set_option maxRecDepth 100000 in
set_option maxHeartbeats 2000000 in
theorem qplain_calls (s : ByteArray) (w : World) (hsz : s.size ≤ 1000000) (hG : Glob w) (hn : (Lib.goFieldsP (fun x => decide (x = 32)) s).length ≤ 1000000) (hj : (rejoin s).length ≤ 1000000) :
    Calls Tryz.prog 80 #[.string s] w fun e w' => e = .returned (.bool (plainQ s)) ∧ Below w.heap.size w w' := by
  have cV : Calls Tryz.prog 153 #[.string s] w fun e w' => e = .returned (.bool (Lib.validD s.data.toList)) ∧ Below w.heap.size w w' := Any.utf8_ValidString Tryz.laysValid s w (by omega) hG.1
  have CV := Lib.hid cV
  clear cV hG
  have hpl : plainQ s = (Lib.validD s.data.toList && (s.toList == rejoin s) && okBytes s) := rfl
  generalize Lib.validD s.data.toList = b4 at CV hpl
  have Hpl := Lib.hid hpl
  clear hpl
  cases b4
  · have hb := Lib.hid (show plainQ s = false by rw [Hpl.out]; simp)
    go_enter Tryz.func80, Tryz.ntmps80
    go_wp2_with fail
    refine CV.out.mono ?_
    rintro e w' ⟨rfl, hb'⟩
    go_wp2_with fail
    go_ret
    exact ⟨ret_bool hb.out.symm, hb'⟩
  · obtain ⟨b2, hb2⟩ : ∃ b, (s.toList == rejoin s) = b := ⟨_, rfl⟩
    cases b2
    · have hb := Lib.hid (show plainQ s = false by rw [Hpl.out, hb2]; simp)
      have hne : (s.toList != rejoin s) = true := by simp [bne, hb2]
      go_enter Tryz.func80, Tryz.ntmps80
      go_wp2_with fail
      refine CV.out.mono ?_
      rintro e w1 ⟨rfl, hb1⟩
      go_wp2_with fail
      refine (fields_calls s w1 hsz).mono ?_
      rintro e w2 ⟨v, rfl, hown, hb2', hA⟩
      go_wp2_with fail
      refine (join_calls s v _ w2 hown hA hn hj).mono ?_
      rintro e w3 ⟨rfl, hb3⟩
      clear hown hA
      go_wp2_with fail
      go_ret
      exact ⟨ret_bool hb.out.symm, (hb1.trans (hb2'.mono hb1.size)).trans (hb3.mono (Nat.le_trans hb1.size hb2'.size))⟩
    · have hb := Lib.hid (show plainQ s = okBytes s by rw [Hpl.out, hb2]; simp)
      have hne : (s.toList != rejoin s) = false := by simp [bne, hb2]
      go_enter Tryz.func80, Tryz.ntmps80
      go_wp2_with fail
      refine CV.out.mono ?_
      rintro e w1 ⟨rfl, hb1⟩
      go_wp2_with fail
      refine (fields_calls s w1 hsz).mono ?_
      rintro e w2 ⟨v, rfl, hown, hb2', hA⟩
      go_wp2_with fail
      refine (join_calls s v _ w2 hown hA hn hj).mono ?_
      rintro e w3 ⟨rfl, hb3⟩
      clear hown hA
      have hbb := (hb1.trans (hb2'.mono hb1.size)).trans (hb3.mono (Nat.le_trans hb1.size hb2'.size))
      clear hb1 hb2' hb3
      go_wp2_with fail
      go_loop [16] (fun i => ∃ k : Nat, k ≤ s.size ∧ i = .int .i64 k ∧ Hid (∀ i, i < k → (decide (byteAt s i < 32) || byteAt s i == 127) = false)) (fun i => s.size - (intOf i).toNat)
      case atStart => exact ⟨0, Nat.zero_le _, rfl, Lib.hid fun i hi => by omega⟩
      case round =>
        obtain ⟨k, hk, rfl, Hok⟩ := hrel
        by_cases hlt : k < s.size
        · have Hx := Lib.hid (show byteAt s k = (s[k].toNat : Int) by rw [byteAt, dif_pos hlt])
          have Hbad := Lib.hid (show (decide ((s[k].toNat : Int) < 32) || (s[k].toNat : Int) == 127) = true → plainQ s = false from fun h => by
            have : okBytes s = false := by
              unfold okBytes; rw [List.all_eq_false]
              exact ⟨k, List.mem_range.2 hlt, by rw [Hx.out, h]; simp⟩
            rw [hb.out, this])
          by_cases h32 : (s[k].toNat : Int) < 32
          · have hb := Lib.hid (Hbad.out (by simp [h32]))
            go_wp2_with fail
            go_ret
            exact ⟨ret_bool hb.out.symm, hbb⟩
          · by_cases h127 : (s[k].toNat : Int) = 127
            · have hb := Lib.hid (Hbad.out (by simp [h127]))
              have e1 : ((s[k].toNat : Int) == 127) = true := by simp [h127]
              clear h127
              go_wp2_with fail
              go_ret
              exact ⟨ret_bool hb.out.symm, hbb⟩
            · have e1 : ((s[k].toNat : Int) == 127) = false := by simp [h127]
              have Hnext := Lib.hid (show ∀ i, i < k + 1 → (decide (byteAt s i < 32) || byteAt s i == 127) = false from fun i hi => by
                rcases Nat.lt_succ_iff_lt_or_eq.1 hi with h' | rfl
                · exact Hok.out i h'
                · rw [Hx.out, e1]; simp; omega)
              clear h127
              go_wp2_with fail
              go_round
              case rel => exact ⟨k + 1, by omega, by go_num, Hnext⟩
              case measure => simp [intOf]; omega
        · obtain rfl : k = s.size := by omega
          have hb := Lib.hid (show plainQ s = true by
            have : okBytes s = true := by
              unfold okBytes; rw [List.all_eq_true]
              exact fun i hi => by rw [Hok.out i (List.mem_range.1 hi)]; rfl
            rw [hb.out, this])
          go_wp2_with fail
          go_ret
          exact ⟨ret_bool hb.out.symm, hbb⟩
end Go.Proofs.YtmjkbmkjnbpgeaaGreatDoor
