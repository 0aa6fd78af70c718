/- Walks of package check: numbers and keys. Walks of check.Each and cmp.Or: the first error of some. find and known: a binary search over players. -/
import Derived.Test.YtmjkbmkjnbpgeaaGreatDoorRows
import Derived.Test.YtmjkbmkjnbpgeaaGreatDoorBa
import Derived.Test.YtmjkbmkjnbpgeaaGreatDoorShelf
import Derived.Test.YtmjkbmkjnbpgeaaGreatDoorBo
namespace Go.Proofs.YtmjkbmkjnbpgeaaGreatDoor
open Go.RowKit

def smallB (x : Int) : Bool := decide (97 ≤ x) && decide (x ≤ 122)
def digitB (x : Int) : Bool := decide (48 ≤ x) && decide (x ≤ 57)
def betwB (n low high : Int) : Bool := decide (low ≤ n) && decide (n ≤ high)
/-- The error unless something is right. -/
def unlessE (b : Bool) (e : Int) : Int := if b then 0 else e
/-- The first error of some. -/
def firstE : List Int → Int
  | [] => 0
  | e :: es => if e = 0 then firstE es else e

set_option maxRecDepth 100000 in
set_option maxHeartbeats 400000 in
theorem small_calls (x : Int) (w : World) :
    Calls Tryz.prog 150 #[.int .u8 x] w fun e w' => e = .returned (.bool (smallB x)) ∧ w = w' := by
  by_cases h1 : 97 ≤ x
  · by_cases h2 : x ≤ 122
    · go_enter Tryz.func150, Tryz.ntmps150
      go_wp2
      go_ret
      exact ⟨ret_bool (by simp [smallB, h1, h2]), rfl⟩
    · go_enter Tryz.func150, Tryz.ntmps150
      go_wp2
      go_ret
      exact ⟨ret_bool (by simp [smallB, h1, h2]), rfl⟩
  · go_enter Tryz.func150, Tryz.ntmps150
    go_wp2
    go_ret
    exact ⟨ret_bool (by simp [smallB]; omega), rfl⟩
set_option maxRecDepth 100000 in
set_option maxHeartbeats 400000 in
theorem digit_calls (x : Int) (w : World) :
    Calls Tryz.prog 151 #[.int .u8 x] w fun e w' => e = .returned (.bool (digitB x)) ∧ w = w' := by
  by_cases h1 : 48 ≤ x
  · by_cases h2 : x ≤ 57
    · go_enter Tryz.func151, Tryz.ntmps151
      go_wp2
      go_ret
      exact ⟨ret_bool (by simp [digitB, h1, h2]), rfl⟩
    · go_enter Tryz.func151, Tryz.ntmps151
      go_wp2
      go_ret
      exact ⟨ret_bool (by simp [digitB, h1, h2]), rfl⟩
  · go_enter Tryz.func151, Tryz.ntmps151
    go_wp2
    go_ret
    exact ⟨ret_bool (by simp [digitB]; omega), rfl⟩
set_option maxRecDepth 100000 in
set_option maxHeartbeats 400000 in
theorem between_calls (n low high : Int) (w : World) :
    Calls Tryz.prog 119 #[.int .i64 n, .int .i64 low, .int .i64 high] w fun e w' => e = .returned (.bool (betwB n low high)) ∧ w = w' := by
  by_cases h1 : low ≤ n
  · by_cases h2 : n ≤ high
    · go_enter Tryz.func119, Tryz.ntmps119
      go_wp2
      go_ret
      exact ⟨ret_bool (by simp [betwB, h1, h2]), rfl⟩
    · go_enter Tryz.func119, Tryz.ntmps119
      go_wp2
      go_ret
      exact ⟨ret_bool (by simp [betwB, h1, h2]), rfl⟩
  · go_enter Tryz.func119, Tryz.ntmps119
    go_wp2
    go_ret
    exact ⟨ret_bool (by simp [betwB]; omega), rfl⟩
set_option maxHeartbeats 400000 in
theorem week_calls (n : Int) (w : World) :
    Calls Tryz.prog 74 #[.int .i64 n] w fun e w' => e = .returned (.bool (betwB n 1 60)) ∧ w = w' := by
  go_enter Tryz.func74, Tryz.ntmps74
  go_wp2_with fail
  refine (between_calls n 1 60 w).mono ?_
  rintro e w' ⟨rfl, rfl⟩
  go_wp2_with fail
  go_ret
  exact ⟨rfl, rfl⟩
set_option maxHeartbeats 400000 in
theorem unless_calls (b : Bool) (x : Int) (w : World) :
    Calls Tryz.prog 72 #[.bool b, .int .i64 x] w fun e w' => e = .returned (.int .i64 (unlessE b x)) ∧ w = w' := by
  cases b
  · go_enter Tryz.func72, Tryz.ntmps72
    go_wp2
    go_ret
    exact ⟨rfl, rfl⟩
  · go_enter Tryz.func72, Tryz.ntmps72
    go_wp2
    go_ret
    exact ⟨rfl, rfl⟩
theorem strCompare_calls (a b : ByteArray) (w : World) :
    Calls Tryz.prog 162 #[.string a, .string b] w fun e w' => e = .returned (.int .i64 (Lib.compareBytes a.data.toList b.data.toList)) ∧ w = w' :=
  (Tryz.strings_Compare a b w).mono fun _ _ ⟨h1, h2⟩ => ⟨h1, h2.symm⟩

/-- May a byte stand in a key? -/
def okC (x : Int) : Bool := smallB x || digitB x || x == 45 || x == 95
/-- The byte at a place, as a number. -/
def byteAt (s : ByteArray) (i : Nat) : Int := if h : i < s.size then (s[i].toNat : Int) else 0
def keyB (s : ByteArray) : Bool := decide (1 ≤ s.size) && decide (s.size ≤ 40) && smallB (byteAt s 0) && (List.range s.size).all fun i => okC (byteAt s i)

theorem empty_of (s : ByteArray) : s.toList.isEmpty = decide (s.size = 0) := by
  rw [← decide_eq_emptyBytes]
  by_cases h : s.size = 0
  · have : s = ByteArray.empty := by
      cases s with | mk a => exact congrArg ByteArray.mk (Array.eq_empty_of_size_eq_zero h)
    simp [this]
  · have : s ≠ ByteArray.empty := fun e => h (by rw [e]; rfl)
    simp [this, h]

set_option maxRecDepth 100000 in
set_option maxHeartbeats 2000000 in
theorem key_calls (s : ByteArray) (w : World) (hsz : s.size ≤ 1000000) :
    Calls Tryz.prog 76 #[.string s] w fun e w' => e = .returned (.bool (keyB s)) ∧ w = w' := by
  by_cases h0 : s.size = 0
  · have he : s.toList.isEmpty = true := by rw [empty_of]; simp [h0]
    have hk := Lib.hid (show keyB s = false by simp [keyB, h0])
    clear h0
    go_enter Tryz.func76, Tryz.ntmps76
    go_wp2
    go_ret
    exact ⟨ret_bool hk.out.symm, rfl⟩
  · have he : s.toList.isEmpty = false := by rw [empty_of]; simp [h0]
    have hpos : 0 < s.size := by omega
    by_cases h40 : s.size ≤ 40
    · have hc : ∃ b, smallB (s[0].toNat : Int) = b := ⟨_, rfl⟩
      obtain ⟨b, hb⟩ := hc
      have Hb := Lib.hid hb
      have Hb0 := Lib.hid (show smallB (byteAt s 0) = b by rw [byteAt, dif_pos hpos]; exact hb)
      clear hb
      cases b
      · have hk := Lib.hid (show keyB s = false by simp [keyB, Hb0.out])
        go_enter Tryz.func76, Tryz.ntmps76
        go_wp2_with fail
        refine (small_calls _ w).mono ?_
        rintro e w' ⟨rfl, rfl⟩
        rw [Hb.out]
        go_wp2_with fail
        go_ret
        exact ⟨ret_bool hk.out.symm, rfl⟩
      · go_enter Tryz.func76, Tryz.ntmps76
        go_wp2_with fail
        refine (small_calls _ w).mono ?_
        rintro e w' ⟨rfl, rfl⟩
        rw [Hb.out]
        go_wp2_with fail
        go_loop [19] (fun i => ∃ k : Nat, k ≤ s.size ∧ i = .int .i64 k ∧ Hid (∀ i, i < k → okC (byteAt s i) = true)) (fun i => s.size - (intOf i).toNat)
        case atStart => exact ⟨0, Nat.zero_le _, rfl, Lib.hid fun i hi => by omega⟩
        case round =>
          obtain ⟨k, hk, rfl, Hok⟩ := hrel
          by_cases hlt : k < s.size
          · obtain ⟨b1, hb1⟩ : ∃ b, smallB (s[k].toNat : Int) = b := ⟨_, rfl⟩
            have Hx := Lib.hid (show byteAt s k = (s[k].toNat : Int) by rw [byteAt, dif_pos hlt])
            have Hnext := Lib.hid (show okC (s[k].toNat : Int) = true → ∀ i, i < k + 1 → okC (byteAt s i) = true from fun h i hi => by
              rcases Nat.lt_succ_iff_lt_or_eq.1 hi with h' | rfl
              · exact Hok.out i h'
              · rw [Hx.out]; exact h)
            have Hfail := Lib.hid (show okC (s[k].toNat : Int) = false → keyB s = false from fun h => by
              unfold keyB
              rw [Bool.and_eq_false_iff]; right
              rw [List.all_eq_false]
              exact ⟨k, List.mem_range.2 hlt, by rw [Hx.out, h]; simp⟩)
            have H1 := Lib.hid hb1
            clear hb1
            cases b1
            · obtain ⟨b2, hb2⟩ : ∃ b, digitB (s[k].toNat : Int) = b := ⟨_, rfl⟩
              have H2 := Lib.hid hb2
              clear hb2
              cases b2
              · by_cases h45 : (s[k].toNat : Int) = 45
                · have e1 : ((s[k].toNat : Int) != 45) = false := by simp [h45]
                  have Hgo := Lib.hid (Hnext.out (by simp [okC, h45]))
                  clear h45
                  go_wp2_with fail
                  refine (small_calls _ w).mono ?_
                  rintro e w' ⟨rfl, rfl⟩
                  rw [H1.out]
                  go_wp2_with fail
                  refine (digit_calls _ w).mono ?_
                  rintro e w' ⟨rfl, rfl⟩
                  rw [H2.out]
                  go_wp2_with fail
                  go_round
                  case rel => exact ⟨k + 1, by omega, by go_num, Hgo⟩
                  case measure => simp [intOf]; omega
                · have e1 : ((s[k].toNat : Int) != 45) = true := by simpa using h45
                  by_cases h95 : (s[k].toNat : Int) = 95
                  · have e2 : ((s[k].toNat : Int) != 95) = false := by simp [h95]
                    have Hgo := Lib.hid (Hnext.out (by simp [okC, h95]))
                    clear h45 h95
                    go_wp2_with fail
                    refine (small_calls _ w).mono ?_
                    rintro e w' ⟨rfl, rfl⟩
                    rw [H1.out]
                    go_wp2_with fail
                    refine (digit_calls _ w).mono ?_
                    rintro e w' ⟨rfl, rfl⟩
                    rw [H2.out]
                    go_wp2_with fail
                    go_round
                    case rel => exact ⟨k + 1, by omega, by go_num, Hgo⟩
                    case measure => simp [intOf]; omega
                  · have e2 : ((s[k].toNat : Int) != 95) = true := by simpa using h95
                    have Hgo := Lib.hid (Hfail.out (by simp [okC, H1.out, H2.out, h45, h95]))
                    clear h45 h95
                    go_wp2_with fail
                    refine (small_calls _ w).mono ?_
                    rintro e w' ⟨rfl, rfl⟩
                    rw [H1.out]
                    go_wp2_with fail
                    refine (digit_calls _ w).mono ?_
                    rintro e w' ⟨rfl, rfl⟩
                    rw [H2.out]
                    go_wp2_with fail
                    go_ret
                    exact ⟨ret_bool Hgo.out.symm, rfl⟩
              · have Hgo := Lib.hid (Hnext.out (by simp [okC, H2.out]))
                go_wp2_with fail
                refine (small_calls _ w).mono ?_
                rintro e w' ⟨rfl, rfl⟩
                rw [H1.out]
                go_wp2_with fail
                refine (digit_calls _ w).mono ?_
                rintro e w' ⟨rfl, rfl⟩
                rw [H2.out]
                go_wp2_with fail
                go_round
                case rel => exact ⟨k + 1, by omega, by go_num, Hgo⟩
                case measure => simp [intOf]; omega
            · have Hgo := Lib.hid (Hnext.out (by simp [okC, H1.out]))
              go_wp2_with fail
              refine (small_calls _ w).mono ?_
              rintro e w' ⟨rfl, rfl⟩
              rw [H1.out]
              go_wp2_with fail
              go_round
              case rel => exact ⟨k + 1, by omega, by go_num, Hgo⟩
              case measure => simp [intOf]; omega
          · obtain rfl : k = s.size := by omega
            have Hgo := Lib.hid (show keyB s = true by
              unfold keyB
              rw [Hb0.out, List.all_eq_true.2 fun i hi => Hok.out i (List.mem_range.1 hi)]
              simp [h40]; omega)
            go_wp2_with fail
            go_ret
            exact ⟨ret_bool Hgo.out.symm, rfl⟩
    · have hk := Lib.hid (show keyB s = false by simp [keyB, h40])
      go_enter Tryz.func76, Tryz.ntmps76
      go_wp2
      go_ret
      exact ⟨ret_bool hk.out.symm, rfl⟩
end Go.Proofs.YtmjkbmkjnbpgeaaGreatDoor
namespace Go.Proofs.YtmjkbmkjnbpgeaaGreatDoor
open Go.RowKit

theorem firstE_append (a b : List Int) : firstE (a ++ b) = if firstE a = 0 then firstE b else firstE a := by
  induction a with
  | nil => simp [firstE]
  | cons x xs ih =>
    simp only [List.cons_append, firstE]
    by_cases hx : x = 0 <;> simp [hx, ih]
theorem firstE_zero {a : List Int} (h : ∀ x ∈ a, x = 0) : firstE a = 0 := by
  induction a with
  | nil => rfl
  | cons x xs ih =>
    have hx := h x (by simp)
    simp [firstE, hx, ih fun y hy => h y (by simp [hy])]
/-- The errors of the first n, each asked for in turn. -/
def errsTo (f : Nat → Int) (n : Nat) : Int := firstE ((List.range n).map f)
theorem errsTo_hit {f : Nat → Int} {n k : Nat} (hk : k < n) (h0 : ∀ i, i < k → f i = 0) (h : f k ≠ 0) : errsTo f n = f k := by
  obtain ⟨m, rfl⟩ : ∃ m, n = k + 1 + m := ⟨n - (k + 1), by omega⟩
  unfold errsTo
  rw [List.range_add, List.map_append, firstE_append, List.range_succ, List.map_append, firstE_append, firstE_zero (fun x hx => by
    obtain ⟨i, hi, rfl⟩ := List.mem_map.1 hx
    exact h0 i (List.mem_range.1 hi))]
  simp [firstE, h]
theorem errsTo_none {f : Nat → Int} {n : Nat} (h0 : ∀ i, i < n → f i = 0) : errsTo f n = 0 :=
  firstE_zero fun x hx => by
    obtain ⟨i, hi, rfl⟩ := List.mem_map.1 hx
    exact h0 i (List.mem_range.1 hi)
/-- What Each answers. -/
def eachE (n most : Int) (f : Nat → Int) : Int := if most < n then 2 else errsTo f n.toNat

def IntBelow (x : Int) (w : World) (e : Ending) (w' : World) : Prop := e = .returned (.int .i64 x) ∧ Below w.heap.size w w'

set_option maxRecDepth 100000 in
set_option maxHeartbeats 1000000 in
theorem each_calls (g : Nat) (caps : Array Value) (eg : ∀ args w, (callFunc g args).run Tryz.prog w = .ok (.enter g args) w) (f : Nat → Int) (n : Nat) (most : Int) (w : World) (hn : n ≤ 1000000)
    (hf : ∀ (W : World) (i : Nat), i < n → Below w.heap.size w W → Calls Tryz.prog g (#[.int .i64 (i : Int)] ++ caps) W (IntBelow (f i) W)) :
    Calls Tryz.prog 85 #[.int .i64 (n : Int), .int .i64 most, .func (.func g) #[] caps] w (IntBelow (eachE n most f) w) := by
  by_cases hm : most < (n : Int)
  · go_enter Tryz.func85, Tryz.ntmps85
    go_wp2
    go_ret
    exact ⟨ret_int (by simp [eachE, hm]), Below.refl _ _⟩
  · have he := Lib.hid (show eachE n most f = errsTo f n by simp [eachE, hm])
    have Hf := Lib.hid hf
    clear hf
    go_enter Tryz.func85, Tryz.ntmps85
    go_wp2_with fail
    go_loopw [13] (fun i wr => ∃ k : Nat, k ≤ n ∧ i = .int .i64 k ∧ Below w.heap.size w wr ∧ Hid (∀ i, i < k → f i = 0)) (fun i _ => n - (intOf i).toNat)
    case atStart => exact ⟨0, Nat.zero_le _, rfl, Below.refl _ _, Lib.hid fun i hi => by omega⟩
    case round =>
      obtain ⟨k, hk, rfl, hb, H0⟩ := hrel
      by_cases hlt : k < n
      · go_wp2_with fail
        refine (Hf.out wr k hlt hb).mono ?_
        rintro e w' ⟨rfl, hb'⟩
        have hb2 := hb.trans (hb'.mono hb.size)
        by_cases hz : f k = 0
        · have e1 : (f k != 0) = false := by simp [hz]
          have Hz := Lib.hid hz
          clear hz
          go_wp2_with fail
          go_roundw
          case rel => exact ⟨k + 1, by omega, by go_num, hb2, Lib.hid fun i hi => by
            rcases Nat.lt_succ_iff_lt_or_eq.1 hi with h | rfl
            · exact H0.out i h
            · exact Hz.out⟩
          case measure => simp [intOf]; omega
        · have e1 : (f k != 0) = true := by simp [hz]
          have Hz := Lib.hid hz
          clear hz
          go_wp2_with fail
          go_ret
          exact ⟨ret_int (by rw [he.out, errsTo_hit hlt H0.out Hz.out]), hb2⟩
      · obtain rfl : k = n := by omega
        go_wp2_with fail
        go_ret
        exact ⟨ret_int (by rw [he.out, errsTo_none H0.out]), hb⟩

/-- A slice of numbers, as cells. -/
def NumsAt (w : World) (g : Nat) (off : Nat) (xs : List Int) : Prop := ∀ (i : Nat) (x : Int), xs[i]? = some x → w.cell? ⟨g, off + i, none⟩ = some (.int .i64 x)
theorem firstE_hit {xs : List Int} {k : Nat} {x : Int} (hk : xs[k]? = some x) (h0 : ∀ i y, i < k → xs[i]? = some y → y = 0) (h : x ≠ 0) : firstE xs = x := by
  induction xs generalizing k with
  | nil => simp at hk
  | cons y ys ih =>
    cases k with
    | zero => simp at hk; subst hk; simp [firstE, h]
    | succ k =>
      have hy : y = 0 := h0 0 y (by omega) (by simp)
      simp only [firstE, hy, if_true]
      exact ih (by simpa using hk) fun i z hi hz => h0 (i + 1) z (by omega) (by simpa using hz)
theorem firstE_none {xs : List Int} (h0 : ∀ (i : Nat) (y : Int), xs[i]? = some y → y = 0) : firstE xs = 0 :=
  firstE_zero fun x hx => by obtain ⟨i, hi⟩ := List.getElem?_of_mem hx; exact h0 i x hi

set_option maxRecDepth 100000 in
set_option maxHeartbeats 1000000 in
theorem orE_calls (g off cap : Nat) (xs : List Int) (w : World) (hn : xs.length ≤ 1000000) (hc : NumsAt w g off xs) :
    Calls Tryz.prog 71 #[.slice (some ⟨g, off, none⟩) xs.length cap] w fun e w' => e = .returned (.int .i64 (firstE xs)) ∧ w = w' := by
  have Hc := Lib.hid hc
  clear hc
  go_enter Tryz.func71, Tryz.ntmps71
  go_wp2_with fail
  go_loop [8] (fun i => ∃ k : Nat, k ≤ xs.length ∧ i = .int .i64 k ∧ Hid (∀ (i : Nat) (y : Int), i < k → xs[i]? = some y → y = 0)) (fun i => xs.length - (intOf i).toNat)
  case atStart => exact ⟨0, Nat.zero_le _, rfl, Lib.hid fun i y hi => by omega⟩
  case round =>
    obtain ⟨k, hk, rfl, H0⟩ := hrel
    by_cases hlt : k < xs.length
    · obtain ⟨x, hx⟩ : ∃ x, xs[k]? = some x := ⟨xs[k], List.getElem?_eq_getElem hlt⟩
      have hcell := Hc.out k x hx
      have Hx := Lib.hid hx
      clear hx
      by_cases hz : x = 0
      · subst hz
        go_wp2_with fail
        go_round
        case rel => exact ⟨k + 1, by omega, by go_num, Lib.hid fun i y hi hy => by
          rcases Nat.lt_succ_iff_lt_or_eq.1 hi with h | rfl
          · exact H0.out i y h hy
          · rw [Hx.out] at hy; exact (Option.some.inj hy).symm⟩
        case measure => simp [intOf]; omega
      · have e1 : (x != 0) = true := by simp [hz]
        have Hz := Lib.hid hz
        clear hz
        go_wp2_with fail
        go_ret
        exact ⟨ret_int (firstE_hit Hx.out H0.out Hz.out).symm, rfl⟩
    · obtain rfl : k = xs.length := by omega
      go_wp2_with fail
      go_ret
      exact ⟨ret_int (firstE_none fun i y hy => H0.out i y (List.getElem?_eq_some_iff.1 hy).1 hy).symm, rfl⟩

set_option maxRecDepth 100000 in
set_option maxHeartbeats 1000000 in
theorem orI_calls (g off cap : Nat) (xs : List Int) (w : World) (hn : xs.length ≤ 1000000) (hc : NumsAt w g off xs) :
    Calls Tryz.prog 161 #[.slice (some ⟨g, off, none⟩) xs.length cap] w fun e w' => e = .returned (.int .i64 (firstE xs)) ∧ w = w' := by
  have Hc := Lib.hid hc
  clear hc
  go_enter Tryz.func161, Tryz.ntmps161
  go_wp2_with fail
  go_loop [8] (fun i => ∃ k : Nat, k ≤ xs.length ∧ i = .int .i64 k ∧ Hid (∀ (i : Nat) (y : Int), i < k → xs[i]? = some y → y = 0)) (fun i => xs.length - (intOf i).toNat)
  case atStart => exact ⟨0, Nat.zero_le _, rfl, Lib.hid fun i y hi => by omega⟩
  case round =>
    obtain ⟨k, hk, rfl, H0⟩ := hrel
    by_cases hlt : k < xs.length
    · obtain ⟨x, hx⟩ : ∃ x, xs[k]? = some x := ⟨xs[k], List.getElem?_eq_getElem hlt⟩
      have hcell := Hc.out k x hx
      have Hx := Lib.hid hx
      clear hx
      by_cases hz : x = 0
      · subst hz
        go_wp2_with fail
        go_round
        case rel => exact ⟨k + 1, by omega, by go_num, Lib.hid fun i y hi hy => by
          rcases Nat.lt_succ_iff_lt_or_eq.1 hi with h | rfl
          · exact H0.out i y h hy
          · rw [Hx.out] at hy; exact (Option.some.inj hy).symm⟩
        case measure => simp [intOf]; omega
      · have e1 : (x != 0) = true := by simp [hz]
        have Hz := Lib.hid hz
        clear hz
        go_wp2_with fail
        go_ret
        exact ⟨ret_int (firstE_hit Hx.out H0.out Hz.out).symm, rfl⟩
    · obtain rfl : k = xs.length := by omega
      go_wp2_with fail
      go_ret
      exact ⟨ret_int (firstE_none fun i y hy => H0.out i y (List.getElem?_eq_some_iff.1 hy).1 hy).symm, rfl⟩
end Go.Proofs.YtmjkbmkjnbpgeaaGreatDoor
namespace Go.Proofs.YtmjkbmkjnbpgeaaGreatDoor
open Go.RowKit

/-- The key of player i. -/
def keyAt (ps : List PD) (i : Nat) : ByteArray := (ps[i]?.map PD.key).getD ByteArray.empty
theorem keyAt_some {ps : List PD} {i : Nat} {p : PD} (h : ps[i]? = some p) : keyAt ps i = p.key := by simp [keyAt, h]
/-- The search, from i to j. -/
def bs (ps : List PD) (who : ByteArray) : Nat → Nat → Nat → Nat
  | 0, i, _ => i
  | f + 1, i, j => if i < j then (if ltS (keyAt ps ((i + j) / 2)) who then bs ps who f ((i + j) / 2 + 1) j else bs ps who f i ((i + j) / 2)) else i
def bsI (ps : List PD) (who : ByteArray) : Nat := bs ps who ps.length 0 ps.length
def knownB (ps : List PD) (who : ByteArray) : Bool := decide (bsI ps who < ps.length) && beqS (keyAt ps (bsI ps who)) who

theorem bs_end {ps : List PD} {who : ByteArray} {f i j : Nat} (h : ¬ i < j) : bs ps who f i j = i := by
  cases f with
  | zero => rfl
  | succ f => rw [bs, if_neg h]
theorem bs_left {ps : List PD} {who : ByteArray} {f i j : Nat} (h : i < j) (hf : j - i ≤ f) (hl : ltS (keyAt ps ((i + j) / 2)) who = true) : ∃ f', bs ps who f i j = bs ps who f' ((i + j) / 2 + 1) j ∧ j - ((i + j) / 2 + 1) ≤ f' := by
  cases f with
  | zero => omega
  | succ f => exact ⟨f, by rw [bs, if_pos h, if_pos hl], by omega⟩
theorem bs_right {ps : List PD} {who : ByteArray} {f i j : Nat} (h : i < j) (hf : j - i ≤ f) (hl : ltS (keyAt ps ((i + j) / 2)) who = false) : ∃ f', bs ps who f i j = bs ps who f' i ((i + j) / 2) ∧ (i + j) / 2 - i ≤ f' := by
  cases f with
  | zero => omega
  | succ f => exact ⟨f, by rw [bs, if_pos h, hl]; rfl, by omega⟩

/-- Keys rise. -/
def SortedP (ps : List PD) : Prop := ∀ i j, i < j → j < ps.length → ltS (keyAt ps i) (keyAt ps j) = true
theorem bs_spec {ps : List PD} (hs : SortedP ps) (who : ByteArray) : ∀ f i j, i ≤ j → j ≤ ps.length → j - i ≤ f → (∀ k, k < i → ltS (keyAt ps k) who = true) → (∀ k, j ≤ k → k < ps.length → ltS (keyAt ps k) who = false) →
    (∀ k, k < bs ps who f i j → ltS (keyAt ps k) who = true) ∧ (∀ k, bs ps who f i j ≤ k → k < ps.length → ltS (keyAt ps k) who = false) := by
  intro f
  induction f with
  | zero =>
    intro i j hij _ hf h1 h2
    have : i = j := by omega
    subst this
    exact ⟨h1, h2⟩
  | succ f ih =>
    intro i j hij hj hf h1 h2
    rw [bs]
    split
    · rename_i hlt
      split
      · rename_i hl
        refine ih _ _ (by omega) hj (by omega) (fun k hk => ?_) h2
        rcases Nat.lt_succ_iff_lt_or_eq.1 hk with h | rfl
        · exact ltS_trans (hs k _ h (by omega)) hl
        · exact hl
      · rename_i hl
        have hl' : ltS (keyAt ps ((i + j) / 2)) who = false := by simpa using hl
        refine ih _ _ (by omega) (by omega) (by omega) h1 (fun k hk hkn => ?_)
        rcases Nat.lt_or_eq_of_le hk with h | rfl
        · cases hh : ltS (keyAt ps k) who
          · rfl
          · have := ltS_trans (hs _ k h hkn) hh
            rw [hl'] at this; cases this
        · exact hl'
    · rename_i hn
      have : i = j := by omega
      subst this
      exact ⟨h1, h2⟩
theorem known_eq {ps : List PD} (hs : SortedP ps) (who : ByteArray) : knownB ps who = hasP ps who := by
  obtain ⟨h1, h2⟩ := bs_spec hs who ps.length 0 ps.length (Nat.zero_le _) (Nat.le_refl _) (by omega) (fun k hk => by omega) (fun k hk hk' => by omega)
  have h1' : ∀ k, k < bsI ps who → ltS (keyAt ps k) who = true := h1
  have h2' : ∀ k, bsI ps who ≤ k → k < ps.length → ltS (keyAt ps k) who = false := h2
  unfold knownB
  cases hh : hasP ps who
  · rw [Bool.and_eq_false_iff]
    by_cases hl : bsI ps who < ps.length
    · right
      have hp : ps[bsI ps who]? = some ps[bsI ps who] := List.getElem?_eq_getElem hl
      rw [keyAt_some hp]
      cases hb : beqS (ps[bsI ps who]).key who
      · rfl
      · rw [hasP] at hh
        rw [List.any_eq_false] at hh
        exact absurd hb (hh _ (List.getElem_mem hl))
    · left; simp; omega
  · rw [hasP, List.any_eq_true] at hh
    obtain ⟨p, hp, hb⟩ := hh
    obtain ⟨k, hk⟩ := List.getElem?_of_mem hp
    have hkl : k < ps.length := (List.getElem?_eq_some_iff.1 hk).1
    have hpk : p.key = who := beqS_iff.1 hb
    have e : keyAt ps k = who := by rw [keyAt_some hk, hpk]
    have hle : bsI ps who ≤ k := by
      rcases Nat.lt_or_ge k (bsI ps who) with h | h
      · have := h1' k h; rw [e, ltS_irrefl] at this; cases this
      · exact h
    have heq : bsI ps who = k := by
      rcases Nat.lt_or_eq_of_le hle with h | h
      · have a := hs _ k h hkl
        rw [e] at a
        have b := h2' (bsI ps who) (Nat.le_refl _) (by omega)
        rw [b] at a; cases a
      · exact h
    rw [heq, e, beqS_self]
    simp [hkl]

set_option maxRecDepth 100000 in
set_option maxHeartbeats 400000 in
theorem find1_calls (k who : ByteArray) (a b : Value) (w : World) :
    Calls Tryz.prog 196 #[.agg #[.string k, a, b], .string who] w (IntBelow (cmpS k who) w) := by
  go_enter Tryz.func196, Tryz.ntmps196
  go_wp2_with fail
  refine (strCompare_calls k who _).mono ?_
  rintro e w' ⟨rfl, rfl⟩
  rw [cmpS_eq]
  go_wp2_with fail
  go_ret
  exact ⟨rfl, below_alloc w _⟩

/-- What a search answers. -/
def Found (ps : List PD) (who : ByteArray) (w : World) (e : Ending) (w' : World) : Prop := e = .returned (.tuple #[.int .i64 (bsI ps who : Int), .bool (knownB ps who)]) ∧ Below w.heap.size w w'

set_option maxRecDepth 100000 in
set_option maxHeartbeats 1000000 in
theorem binarySearch_calls (lo : Nat) (who : ByteArray) (v : Value) (ps : List PD) (w : World) (hp : Plays w lo v ps) :
    Calls Tryz.prog 195 #[v, .string who, .func (.func 196) #[] #[]] w (Found ps who w) := by
  rcases plays_at hp with ⟨rfl, rfl⟩ | ⟨g, off, cap, rfl, _, hg, hn, hcell⟩
  · clear hp
    go_enter Tryz.func195, Tryz.ntmps195
    go_wp2
    refine wp_loop_rounds 1 ?_
    rw [rounds_succ]
    go_wp2
    go_ret2
    exact ⟨rfl, Below.refl _ _⟩
  · clear hp
    go_enter Tryz.func195, Tryz.ntmps195
    go_wp2_with fail
    go_loopw [9, 10] (fun a b wr => ∃ i j : Nat, i ≤ j ∧ j ≤ ps.length ∧ a = .int .i64 i ∧ b = .int .i64 j ∧ Below w.heap.size w wr ∧ Hid (∃ f, bsI ps who = bs ps who f i j ∧ j - i ≤ f)) (fun a b _ => (intOf b).toNat - (intOf a).toNat)
    case atStart => exact ⟨0, ps.length, by omega, by omega, rfl, rfl, Below.refl _ _, Lib.hid ⟨ps.length, rfl, by omega⟩⟩
    case round =>
      obtain ⟨i, j, hij, hj, rfl, rfl, hb, Hf⟩ := hrel
      by_cases hlt : i < j
      · have hh : (i + j) / 2 < ps.length := by omega
        obtain ⟨p, hpk⟩ : ∃ p, ps[(i + j) / 2]? = some p := ⟨_, List.getElem?_eq_getElem hh⟩
        have Hk := Lib.hid (keyAt_some hpk)
        obtain ⟨pv, h0, h1, h2, _⟩ := hcell _ p hpk
        have g0 := below_cell hb h0
        have g1 := below_cell hb h1
        have g2 := below_cell hb h2
        clear hpk h0 h1 h2 hcell
        go_wp2_with fail
        refine (find1_calls p.key who _ _ _).mono ?_
        rintro e w' ⟨rfl, hb'⟩
        have hb2 := hb.trans (hb'.mono hb.size)
        cases hl : ltS p.key who
        · have e1 : decide (cmpS p.key who < 0) = false := by rw [cmpS_neg, hl]
          have Hf' := Lib.hid (show ∃ f, bsI ps who = bs ps who f i ((i + j) / 2) ∧ (i + j) / 2 - i ≤ f by
            obtain ⟨f, h1, h2⟩ := Hf.out
            obtain ⟨f', h3, h4⟩ := bs_right hlt h2 (by rw [Hk.out]; exact hl)
            exact ⟨f', h1.trans h3, h4⟩)
          clear hl
          go_wp2_with fail
          go_roundw
          case rel => exact ⟨i, (i + j) / 2, by omega, by omega, rfl, by go_num, hb2, Hf'⟩
          case measure => simp [intOf]; omega
        · have e1 : decide (cmpS p.key who < 0) = true := by rw [cmpS_neg, hl]
          have Hf' := Lib.hid (show ∃ f, bsI ps who = bs ps who f ((i + j) / 2 + 1) j ∧ j - ((i + j) / 2 + 1) ≤ f by
            obtain ⟨f, h1, h2⟩ := Hf.out
            obtain ⟨f', h3, h4⟩ := bs_left hlt h2 (by rw [Hk.out]; exact hl)
            exact ⟨f', h1.trans h3, h4⟩)
          clear hl
          go_wp2_with fail
          go_roundw
          case rel => exact ⟨(i + j) / 2 + 1, j, by omega, by omega, by go_num, rfl, hb2, Hf'⟩
          case measure => simp [intOf]; omega
      · obtain rfl : i = j := by omega
        have HI := Lib.hid (show bsI ps who = i by
          obtain ⟨f, h1, _⟩ := Hf.out
          rw [h1, bs_end (by omega)])
        clear hlt hij
        by_cases hin : i < ps.length
        · obtain ⟨p, hpk⟩ : ∃ p, ps[i]? = some p := ⟨_, List.getElem?_eq_getElem hin⟩
          have Hk := Lib.hid (keyAt_some hpk)
          obtain ⟨pv, h0, h1, h2, _⟩ := hcell _ p hpk
          have g0 := below_cell hb h0
          have g1 := below_cell hb h1
          have g2 := below_cell hb h2
          clear hpk h0 h1 h2 hcell
          go_wp2_with fail
          refine (find1_calls p.key who _ _ _).mono ?_
          rintro e w' ⟨rfl, hb'⟩
          have hb2 := hb.trans (hb'.mono hb.size)
          have Hq := Lib.hid (show (cmpS p.key who == 0) = knownB ps who by
            unfold knownB
            rw [HI.out, Hk.out]
            simp only [hin, decide_true, Bool.true_and]
            exact cmpS_zero _ _)
          have Hq' := Lib.hid (show (cmpS p.key who == 0) = true ∨ (cmpS p.key who == 0) = false by cases (cmpS p.key who == 0) <;> simp)
          rcases Hq'.out with hq | hq
          · go_wp2_with fail
            go_ret2
            refine ⟨?_, hb2⟩
            rw [HI.out, ← Hq.out, hq]; rfl
          · go_wp2_with fail
            go_ret2
            refine ⟨?_, hb2⟩
            rw [HI.out, ← Hq.out, hq]; rfl
        · have Hq := Lib.hid (show knownB ps who = false by unfold knownB; rw [HI.out]; simp [hin])
          go_wp2_with fail
          go_ret2
          refine ⟨?_, hb⟩
          rw [HI.out, Hq.out]; rfl

set_option maxRecDepth 100000 in
set_option maxHeartbeats 400000 in
theorem find_calls (lo : Nat) (who : ByteArray) (v : Value) (ps : List PD) (w : World) (hp : Plays w lo v ps) :
    Calls Tryz.prog 147 #[v, .string who] w (Found ps who w) := by
  go_enter Tryz.func147, Tryz.ntmps147
  go_wp2_with fail
  refine (binarySearch_calls lo who v ps w hp).mono ?_
  rintro e w' ⟨rfl, hb⟩
  go_wp2_with fail
  go_ret2
  exact ⟨rfl, hb⟩
def BoolIs (b : Bool) (w : World) (e : Ending) (w' : World) : Prop := e = .returned (.bool b) ∧ Below w.heap.size w w'
set_option maxRecDepth 100000 in
set_option maxHeartbeats 400000 in
theorem known_calls (lo : Nat) (who : ByteArray) (v : Value) (ps : List PD) (w : World) (hp : Plays w lo v ps) :
    Calls Tryz.prog 73 #[v, .string who] w (BoolIs (knownB ps who) w) := by
  go_enter Tryz.func73, Tryz.ntmps73
  go_wp2_with fail
  refine (find_calls lo who v ps w hp).mono ?_
  rintro e w' ⟨rfl, hb⟩
  go_wp2_with fail
  go_ret
  exact ⟨rfl, hb⟩
end Go.Proofs.YtmjkbmkjnbpgeaaGreatDoor
