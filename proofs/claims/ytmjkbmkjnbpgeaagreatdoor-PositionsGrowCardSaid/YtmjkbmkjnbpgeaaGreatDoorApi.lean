/- slices.BinarySearch over strings. -/
import Derived.Test.YtmjkbmkjnbpgeaaGreatDoorBd
import Derived.Test.YtmjkbmkjnbpgeaaGreatDoorFxd
namespace Go.Proofs.YtmjkbmkjnbpgeaaGreatDoor
open Go.RowKit

/-- Strings as players of these keys: a search over them is known. -/
def asP (ks : List ByteArray) : List PD := ks.map fun k => ⟨k, ByteArray.empty, []⟩
theorem asP_length (ks : List ByteArray) : (asP ks).length = ks.length := by simp [asP]
theorem asP_some {ks : List ByteArray} {i : Nat} {k : ByteArray} (h : ks[i]? = some k) : keyAt (asP ks) i = k := by
  unfold keyAt asP
  rw [List.getElem?_map, h]; rfl
/-- Where a string stands, or would stand. -/
def binS (ks : List ByteArray) (x : ByteArray) : Nat := bsI (asP ks) x
def isS (ks : List ByteArray) (x : ByteArray) : Bool := knownB (asP ks) x
theorem isNaNs2_calls (a : ByteArray) (w : World) : Calls Tryz.prog 220 #[.string a] w fun e w' => e = .returned (.bool false) ∧ w = w' := by
  have e1 : (a.toList != a.toList) = false := by simp
  go_enter Tryz.func220, Tryz.ntmps220
  go_wp2_with fail
  go_ret
  exact ⟨rfl, rfl⟩
set_option maxRecDepth 100000 in
set_option maxHeartbeats 1000000 in
theorem lessS_calls (a b : ByteArray) (w : World) : Calls Tryz.prog 214 #[.string a, .string b] w fun e w' => e = .returned (.bool (ltS a b)) ∧ w = w' := by
  have HL := Lib.hid (show ltS a b = Op.bytesLess a.toList b.toList from rfl)
  go_enter Tryz.func214, Tryz.ntmps214
  go_wp2_with fail
  refine (isNaNs_calls a w).mono ?_
  rintro e w' ⟨rfl, rfl⟩
  go_wp2_with fail
  go_ret
  exact ⟨ret_bool HL.out.symm, rfl⟩
set_option maxRecDepth 100000 in
set_option maxHeartbeats 4000000 in
theorem binarySearchS_calls (lo : Nat) (v : Value) (ks : List ByteArray) (x : ByteArray) (w : World) (hv : Strs w lo v ks) :
    Calls Tryz.prog 177 #[v, .string x] w fun e w' => e = .returned (.tuple #[.int .i64 (binS ks x : Int), .bool (isS ks x)]) ∧ w = w' := by
  rcases strs_at hv with ⟨rfl, rfl⟩ | ⟨g, off, cap, rfl, _, hg, hn, hcell⟩
  · clear hv
    go_enter Tryz.func177, Tryz.ntmps177
    go_wp2_with fail
    refine wp_loop_rounds 1 ?_
    rw [rounds_succ]
    go_wp2_with fail
    go_ret2
    exact ⟨rfl, rfl⟩
  · have Hc := Lib.hid hcell
    have HL := Lib.hid (asP_length ks)
    have HB := Lib.hid (show binS ks x = bsI (asP ks) x from rfl)
    have HK := Lib.hid (show isS ks x = (decide (bsI (asP ks) x < (asP ks).length) && beqS (keyAt (asP ks) (bsI (asP ks) x)) x) from rfl)
    have H0 := Lib.hid (show ∃ f, bsI (asP ks) x = bs (asP ks) x f 0 ks.length ∧ ks.length - 0 ≤ f from ⟨ks.length, by unfold bsI; rw [asP_length], by omega⟩)
    clear hv hcell
    go_enter Tryz.func177, Tryz.ntmps177
    go_wp2_with fail
    go_loop [7, 8] (fun a b => ∃ i j : Nat, i ≤ j ∧ j ≤ ks.length ∧ a = .int .i64 i ∧ b = .int .i64 j ∧ Hid (∃ f, bsI (asP ks) x = bs (asP ks) x f i j ∧ j - i ≤ f)) (fun a b => (intOf b).toNat - (intOf a).toNat)
    case atStart => exact ⟨0, ks.length, by omega, by omega, rfl, rfl, H0⟩
    case round =>
      obtain ⟨i, j, hij, hj, rfl, rfl, Hf⟩ := hrel
      by_cases hlt : i < j
      · have hh : (i + j) / 2 < ks.length := by omega
        obtain ⟨k, hk⟩ : ∃ k, ks[(i + j) / 2]? = some k := ⟨_, List.getElem?_eq_getElem hh⟩
        have Hk := Lib.hid (asP_some hk)
        have h0 := Hc.out _ k hk
        clear hk
        go_wp2_with fail
        refine (lessS_calls k x _).mono ?_
        rintro e w' ⟨rfl, rfl⟩
        cases hl : ltS k x
        · have Hf' := Lib.hid (show ∃ f, bsI (asP ks) x = bs (asP ks) x f i ((i + j) / 2) ∧ (i + j) / 2 - i ≤ f by
            obtain ⟨f, h1, h2⟩ := Hf.out
            obtain ⟨f', h3, h4⟩ := bs_right hlt h2 (by rw [Hk.out]; exact hl)
            exact ⟨f', h1.trans h3, h4⟩)
          clear hl
          go_wp2_with fail
          go_round
          case rel => exact ⟨i, (i + j) / 2, by omega, by omega, rfl, by go_num, Hf'⟩
          case measure => simp [intOf]; omega
        · have Hf' := Lib.hid (show ∃ f, bsI (asP ks) x = bs (asP ks) x f ((i + j) / 2 + 1) j ∧ j - ((i + j) / 2 + 1) ≤ f by
            obtain ⟨f, h1, h2⟩ := Hf.out
            obtain ⟨f', h3, h4⟩ := bs_left hlt h2 (by rw [Hk.out]; exact hl)
            exact ⟨f', h1.trans h3, h4⟩)
          clear hl
          go_wp2_with fail
          go_round
          case rel => exact ⟨(i + j) / 2 + 1, j, by omega, by omega, by go_num, rfl, Hf'⟩
          case measure => simp [intOf]; omega
      · obtain rfl : i = j := by omega
        have HI := Lib.hid (show bsI (asP ks) x = i by
          obtain ⟨f, h1, _⟩ := Hf.out
          rw [h1, bs_end (by omega)])
        clear hlt hij
        by_cases hin : i < ks.length
        · obtain ⟨k, hk⟩ : ∃ k, ks[i]? = some k := ⟨_, List.getElem?_eq_getElem hin⟩
          have Hk := Lib.hid (asP_some hk)
          have h0 := Hc.out _ k hk
          have Hq := Lib.hid (show isS ks x = beqS k x by rw [HK.out, HI.out, HL.out, Hk.out]; simp [hin])
          clear hk
          cases hq : beqS k x
          · have e1 : (k.toList == x.toList) = false := hq
            have HT := Lib.hid (show isS ks x = false by rw [Hq.out]; exact hq)
            clear hq
            go_wp2_with fail
            refine (isNaNs2_calls k _).mono ?_
            rintro e w' ⟨rfl, rfl⟩
            go_wp2_with fail
            go_ret2
            exact ⟨by rw [HB.out, HI.out, HT.out]; rfl, rfl⟩
          · have e1 : (k.toList == x.toList) = true := hq
            have HT := Lib.hid (show isS ks x = true by rw [Hq.out]; exact hq)
            clear hq
            go_wp2_with fail
            go_ret2
            exact ⟨by rw [HB.out, HI.out, HT.out]; rfl, rfl⟩
        · have Hq := Lib.hid (show isS ks x = false by rw [HK.out, HI.out, HL.out]; simp [hin])
          go_wp2_with fail
          go_ret2
          exact ⟨by rw [HB.out, HI.out, Hq.out]; rfl, rfl⟩
end Go.Proofs.YtmjkbmkjnbpgeaaGreatDoor
