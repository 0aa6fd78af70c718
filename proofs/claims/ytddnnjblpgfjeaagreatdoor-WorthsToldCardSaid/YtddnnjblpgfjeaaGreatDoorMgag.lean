/- Walks of check.Each and cmp.Or: the first error of some. -/
import Derived.Test.YtddnnjblpgfjeaaGreatDoorRows
import Derived.Test.YtddnnjblpgfjeaaGreatDoorMgaa
import Derived.Test.YtddnnjblpgfjeaaGreatDoorShelf
/- Walks of package check: numbers and keys. -/
namespace Go.Proofs.YtddnnjblpgfjeaaGreatDoor
open Go.RowKit

def smallB (x : Int) : Bool := decide (97 ≤ x) && decide (x ≤ 122)
def digitB (x : Int) : Bool := decide (48 ≤ x) && decide (x ≤ 57)
def betwB (n low high : Int) : Bool := decide (low ≤ n) && decide (n ≤ high)
/-- The error unless something is right. -/
def unlessE (b : Bool) (e : Int) : Int := if b then 0 else e
/-- The first error of some. -/
def firstE : List Int → Int
 | [] => 0
 | e :: es => if e = 0 then firstE es else e

set_option maxRecDepth 100000 in
set_option maxHeartbeats 400000 in
theorem small_calls (x : Int) (w : World) :
  Calls Tryz.prog 138 #[.int .u8 x] w fun e w' => e = .returned (.bool (smallB x)) ∧ w = w' := by
 by_cases h1 : 97 ≤ x
 ·by_cases h2 : x ≤ 122
  ·go_enter Tryz.func138, Tryz.ntmps138
   go_wp2
   go_ret
   exact ⟨ret_bool (by simp [smallB, h1, h2]), rfl⟩
  ·go_enter Tryz.func138, Tryz.ntmps138
   go_wp2
   go_ret
   exact ⟨ret_bool (by simp [smallB, h1, h2]), rfl⟩
 ·go_enter Tryz.func138, Tryz.ntmps138
  go_wp2
  go_ret
  exact ⟨ret_bool (by simp [smallB]; omega), rfl⟩
set_option maxRecDepth 100000 in
set_option maxHeartbeats 400000 in
theorem digit_calls (x : Int) (w : World) :
  Calls Tryz.prog 139 #[.int .u8 x] w fun e w' => e = .returned (.bool (digitB x)) ∧ w = w' := by
 by_cases h1 : 48 ≤ x
 ·by_cases h2 : x ≤ 57
  ·go_enter Tryz.func139, Tryz.ntmps139
   go_wp2
   go_ret
   exact ⟨ret_bool (by simp [digitB, h1, h2]), rfl⟩
  ·go_enter Tryz.func139, Tryz.ntmps139
   go_wp2
   go_ret
   exact ⟨ret_bool (by simp [digitB, h1, h2]), rfl⟩
 ·go_enter Tryz.func139, Tryz.ntmps139
  go_wp2
  go_ret
  exact ⟨ret_bool (by simp [digitB]; omega), rfl⟩
set_option maxRecDepth 100000 in
set_option maxHeartbeats 400000 in
theorem between_calls (n low high : Int) (w : World) :
  Calls Tryz.prog 71 #[.int .i64 n, .int .i64 low, .int .i64 high] w fun e w' => e = .returned (.bool (betwB n low high)) ∧ w = w' := by
 by_cases h1 : low ≤ n
 ·by_cases h2 : n ≤ high
  ·go_enter Tryz.func71, Tryz.ntmps71
   go_wp2
   go_ret
   exact ⟨ret_bool (by simp [betwB, h1, h2]), rfl⟩
  ·go_enter Tryz.func71, Tryz.ntmps71
   go_wp2
   go_ret
   exact ⟨ret_bool (by simp [betwB, h1, h2]), rfl⟩
 ·go_enter Tryz.func71, Tryz.ntmps71
  go_wp2
  go_ret
  exact ⟨ret_bool (by simp [betwB]; omega), rfl⟩
set_option maxHeartbeats 400000 in
theorem unless_calls (b : Bool) (x : Int) (w : World) :
  Calls Tryz.prog 70 #[.bool b, .int .i64 x] w fun e w' => e = .returned (.int .i64 (unlessE b x)) ∧ w = w' := by
 cases b
 ·go_enter Tryz.func70, Tryz.ntmps70
  go_wp2
  go_ret
  exact ⟨rfl, rfl⟩
 ·go_enter Tryz.func70, Tryz.ntmps70
  go_wp2
  go_ret
  exact ⟨rfl, rfl⟩
theorem strCompare_calls (a b : ByteArray) (w : World) :
  Calls Tryz.prog 66 #[.string a, .string b] w fun e w' => e = .returned (.int .i64 (Lib.compareBytes a.data.toList b.data.toList)) ∧ w = w' :=
 (Tryz.strings_Compare a b w).mono fun _ _ ⟨h1, h2⟩ => ⟨h1, h2.symm⟩

/-- May a byte stand in a key? -/
def okC (x : Int) : Bool := smallB x || digitB x || x == 45 || x == 95
/-- The byte at a place, as a number. -/
def byteAt (s : ByteArray) (i : Nat) : Int := if h : i < s.size then (s[i].toNat : Int) else 0
def keyB (s : ByteArray) : Bool := decide (1 ≤ s.size) && decide (s.size ≤ 40) && smallB (byteAt s 0) && (List.range s.size).all fun i => okC (byteAt s i)

theorem empty_of (s : ByteArray) : s.toList.isEmpty = decide (s.size = 0) := by
 rw [← decide_eq_emptyBytes]
 by_cases h : s.size = 0
 ·have : s = ByteArray.empty := by
   cases s with | mk a => exact congrArg ByteArray.mk (Array.eq_empty_of_size_eq_zero h)
  simp [this]
 ·have : s ≠ ByteArray.empty := fun e => h (by rw [e]; rfl)
  simp [this, h]

set_option maxRecDepth 100000 in
set_option maxHeartbeats 2000000 in
theorem key_calls (s : ByteArray) (w : World) (hsz : s.size ≤ 1000000) :
  Calls Tryz.prog 89 #[.string s] w fun e w' => e = .returned (.bool (keyB s)) ∧ w = w' := by
 by_cases h0 : s.size = 0
 ·have he : s.toList.isEmpty = true := by rw [empty_of]; simp [h0]
  have hk := Lib.hid (show keyB s = false by simp [keyB, h0])
  clear h0; go_enter Tryz.func89, Tryz.ntmps89; go_wp2
  go_ret
  exact ⟨ret_bool hk.out.symm, rfl⟩
 ·have he : s.toList.isEmpty = false := by rw [empty_of]; simp [h0]
  have hpos : 0 < s.size := by omega
  by_cases h40 : s.size ≤ 40
  ·have hc : ∃ b, smallB (s[0].toNat : Int) = b := ⟨_, rfl⟩
   obtain ⟨b, hb⟩ := hc; have Hb := Lib.hid hb; have Hb0 := Lib.hid (show smallB (byteAt s 0) = b by rw [byteAt, dif_pos hpos]; exact hb)
   clear hb; cases b
   ·have hk := Lib.hid (show keyB s = false by simp [keyB, Hb0.out])
    go_enter Tryz.func89, Tryz.ntmps89; go_wp2_with fail
    refine (small_calls _ w).mono ?_; rintro e w' ⟨rfl, rfl⟩; rw [Hb.out]; go_wp2_with fail
    go_ret
    exact ⟨ret_bool hk.out.symm, rfl⟩
   ·go_enter Tryz.func89, Tryz.ntmps89
    go_wp2_with fail
    refine (small_calls _ w).mono ?_; rintro e w' ⟨rfl, rfl⟩; rw [Hb.out]; go_wp2_with fail
    go_loop [19] (fun i => ∃ k : Nat, k ≤ s.size ∧ i = .int .i64 k ∧ Hid (∀ i, i < k → okC (byteAt s i) = true)) (fun i => s.size - (intOf i).toNat)
    case atStart => exact ⟨0, Nat.zero_le _, rfl, Lib.hid fun i hi => by omega⟩
    case round =>
     obtain ⟨k, hk, rfl, Hok⟩ := hrel; by_cases hlt : k < s.size
     ·obtain ⟨b1, hb1⟩ : ∃ b, smallB (s[k].toNat : Int) = b := ⟨_, rfl⟩
      have Hx := Lib.hid (show byteAt s k = (s[k].toNat : Int) by rw [byteAt, dif_pos hlt])
      have Hnext := Lib.hid (show okC (s[k].toNat : Int) = true → ∀ i, i < k + 1 → okC (byteAt s i) = true from fun h i hi => by
       rcases Nat.lt_succ_iff_lt_or_eq.1 hi with h' | rfl
       ·exact Hok.out i h'
       ·rw [Hx.out]; exact h)
      have Hfail := Lib.hid (show okC (s[k].toNat : Int) = false → keyB s = false from fun h => by
       unfold keyB; rw [Bool.and_eq_false_iff]; right
       rw [List.all_eq_false]; exact ⟨k, List.mem_range.2 hlt, by rw [Hx.out, h]; simp⟩)
      have H1 := Lib.hid hb1; clear hb1; cases b1
      ·obtain ⟨b2, hb2⟩ : ∃ b, digitB (s[k].toNat : Int) = b := ⟨_, rfl⟩
       have H2 := Lib.hid hb2; clear hb2; cases b2
       ·by_cases h45 : (s[k].toNat : Int) = 45
        ·have e1 : ((s[k].toNat : Int) != 45) = false := by simp [h45]
         have Hgo := Lib.hid (Hnext.out (by simp [okC, h45]))
         clear h45; go_wp2_with fail
         refine (small_calls _ w).mono ?_; rintro e w' ⟨rfl, rfl⟩; rw [H1.out]; go_wp2_with fail
         refine (digit_calls _ w).mono ?_; rintro e w' ⟨rfl, rfl⟩; rw [H2.out]; go_wp2_with fail
         go_round
         case rel => exact ⟨k + 1, by omega, by go_num, Hgo⟩
         case measure => simp [intOf]; omega
        ·have e1 : ((s[k].toNat : Int) != 45) = true := by simpa using h45
         by_cases h95 : (s[k].toNat : Int) = 95
         ·have e2 : ((s[k].toNat : Int) != 95) = false := by simp [h95]
          have Hgo := Lib.hid (Hnext.out (by simp [okC, h95]))
          clear h45 h95; go_wp2_with fail
          refine (small_calls _ w).mono ?_; rintro e w' ⟨rfl, rfl⟩; rw [H1.out]; go_wp2_with fail
          refine (digit_calls _ w).mono ?_; rintro e w' ⟨rfl, rfl⟩; rw [H2.out]; go_wp2_with fail
          go_round
          case rel => exact ⟨k + 1, by omega, by go_num, Hgo⟩
          case measure => simp [intOf]; omega
         ·have e2 : ((s[k].toNat : Int) != 95) = true := by simpa using h95
          have Hgo := Lib.hid (Hfail.out (by simp [okC, H1.out, H2.out, h45, h95]))
          clear h45 h95; go_wp2_with fail
          refine (small_calls _ w).mono ?_; rintro e w' ⟨rfl, rfl⟩; rw [H1.out]; go_wp2_with fail
          refine (digit_calls _ w).mono ?_; rintro e w' ⟨rfl, rfl⟩; rw [H2.out]; go_wp2_with fail
          go_ret
          exact ⟨ret_bool Hgo.out.symm, rfl⟩
       ·have Hgo := Lib.hid (Hnext.out (by simp [okC, H2.out]))
        go_wp2_with fail
        refine (small_calls _ w).mono ?_; rintro e w' ⟨rfl, rfl⟩; rw [H1.out]; go_wp2_with fail
        refine (digit_calls _ w).mono ?_; rintro e w' ⟨rfl, rfl⟩; rw [H2.out]; go_wp2_with fail
        go_round
        case rel => exact ⟨k + 1, by omega, by go_num, Hgo⟩
        case measure => simp [intOf]; omega
      ·have Hgo := Lib.hid (Hnext.out (by simp [okC, H1.out]))
       go_wp2_with fail
       refine (small_calls _ w).mono ?_; rintro e w' ⟨rfl, rfl⟩; rw [H1.out]; go_wp2_with fail
       go_round
       case rel => exact ⟨k + 1, by omega, by go_num, Hgo⟩
       case measure => simp [intOf]; omega
     ·obtain rfl : k = s.size := by omega
      have Hgo := Lib.hid (show keyB s = true by
       unfold keyB; rw [Hb0.out, List.all_eq_true.2 fun i hi => Hok.out i (List.mem_range.1 hi)]
       simp [h40]; omega)
      go_wp2_with fail
      go_ret
      exact ⟨ret_bool Hgo.out.symm, rfl⟩
  ·have hk := Lib.hid (show keyB s = false by simp [keyB, h40])
   go_enter Tryz.func89, Tryz.ntmps89; go_wp2
   go_ret
   exact ⟨ret_bool hk.out.symm, rfl⟩
end Go.Proofs.YtddnnjblpgfjeaaGreatDoor
namespace Go.Proofs.YtddnnjblpgfjeaaGreatDoor
open Go.RowKit

theorem firstE_append (a b : List Int) : firstE (a ++ b) = if firstE a = 0 then firstE b else firstE a := by
 induction a with
 | nil => simp [firstE]
 | cons x xs ih =>
  simp only [List.cons_append, firstE]; by_cases hx : x = 0 <;> simp [hx, ih]
theorem firstE_zero {a : List Int} (h : ∀ x ∈ a, x = 0) : firstE a = 0 := by
 induction a with
 | nil => rfl
 | cons x xs ih =>
  have hx := h x (by simp)
  simp [firstE, hx, ih fun y hy => h y (by simp [hy])]
/-- The errors of the first n, each asked for in turn. -/
def errsTo (f : Nat → Int) (n : Nat) : Int := firstE ((List.range n).map f)
theorem errsTo_hit {f : Nat → Int} {n k : Nat} (hk : k < n) (h0 : ∀ i, i < k → f i = 0) (h : f k ≠ 0) : errsTo f n = f k := by
 obtain ⟨m, rfl⟩ : ∃ m, n = k + 1 + m := ⟨n - (k + 1), by omega⟩
 unfold errsTo
 rw [List.range_add, List.map_append, firstE_append, List.range_succ, List.map_append, firstE_append, firstE_zero (fun x hx => by
  obtain ⟨i, hi, rfl⟩ := List.mem_map.1 hx; exact h0 i (List.mem_range.1 hi))]
 simp [firstE, h]
theorem errsTo_none {f : Nat → Int} {n : Nat} (h0 : ∀ i, i < n → f i = 0) : errsTo f n = 0 :=
 firstE_zero fun x hx => by
  obtain ⟨i, hi, rfl⟩ := List.mem_map.1 hx; exact h0 i (List.mem_range.1 hi)
/-- What Each answers. -/
def eachE (n most : Int) (f : Nat → Int) : Int := if most < n then 2 else errsTo f n.toNat

def IntBelow (x : Int) (w : World) (e : Ending) (w' : World) : Prop := e = .returned (.int .i64 x) ∧ Below w.heap.size w w'

set_option maxRecDepth 100000 in
set_option maxHeartbeats 1000000 in
theorem each_calls (g : Nat) (caps : Array Value) (eg : ∀ args w, (callFunc g args).run Tryz.prog w = .ok (.enter g args) w) (f : Nat → Int) (n : Nat) (most : Int) (w : World) (hn : n ≤ 1000000)
  (hf : ∀ (W : World) (i : Nat), i < n → Below w.heap.size w W → Calls Tryz.prog g (#[.int .i64 (i : Int)] ++ caps) W (IntBelow (f i) W)) :
  Calls Tryz.prog 74 #[.int .i64 (n : Int), .int .i64 most, .func (.func g) #[] caps] w (IntBelow (eachE n most f) w) := by
 by_cases hm : most < (n : Int)
 ·go_enter Tryz.func74, Tryz.ntmps74
  go_wp2
  go_ret
  exact ⟨ret_int (by simp [eachE, hm]), Below.refl _ _⟩
 ·have he := Lib.hid (show eachE n most f = errsTo f n by simp [eachE, hm])
  have Hf := Lib.hid hf; clear hf; go_enter Tryz.func74, Tryz.ntmps74; go_wp2_with fail
  go_loopw [13] (fun i wr => ∃ k : Nat, k ≤ n ∧ i = .int .i64 k ∧ Below w.heap.size w wr ∧ Hid (∀ i, i < k → f i = 0)) (fun i _ => n - (intOf i).toNat)
  case atStart => exact ⟨0, Nat.zero_le _, rfl, Below.refl _ _, Lib.hid fun i hi => by omega⟩
  case round =>
   obtain ⟨k, hk, rfl, hb, H0⟩ := hrel; by_cases hlt : k < n
   ·go_wp2_with fail
    refine (Hf.out wr k hlt hb).mono ?_; rintro e w' ⟨rfl, hb'⟩; have hb2 := hb.trans (hb'.mono hb.size); by_cases hz : f k = 0
    ·have e1 : (f k != 0) = false := by simp [hz]
     have Hz := Lib.hid hz; clear hz; go_wp2_with fail
     go_roundw
     case rel => exact ⟨k + 1, by omega, by go_num, hb2, Lib.hid fun i hi => by
      rcases Nat.lt_succ_iff_lt_or_eq.1 hi with h | rfl
      ·exact H0.out i h
      ·exact Hz.out⟩
     case measure => simp [intOf]; omega
    ·have e1 : (f k != 0) = true := by simp [hz]
     have Hz := Lib.hid hz; clear hz; go_wp2_with fail
     go_ret
     exact ⟨ret_int (by rw [he.out, errsTo_hit hlt H0.out Hz.out]), hb2⟩
   ·obtain rfl : k = n := by omega
    go_wp2_with fail
    go_ret
    exact ⟨ret_int (by rw [he.out, errsTo_none H0.out]), hb⟩

/-- A slice of numbers, as cells. -/
def NumsAt (w : World) (g : Nat) (off : Nat) (xs : List Int) : Prop := ∀ (i : Nat) (x : Int), xs[i]? = some x → w.cell? ⟨g, off + i, none⟩ = some (.int .i64 x)
theorem firstE_hit {xs : List Int} {k : Nat} {x : Int} (hk : xs[k]? = some x) (h0 : ∀ i y, i < k → xs[i]? = some y → y = 0) (h : x ≠ 0) : firstE xs = x := by
 induction xs generalizing k with
 | nil => simp at hk
 | cons y ys ih =>
  cases k with
  | zero => simp at hk; subst hk; simp [firstE, h]
  | succ k =>
   have hy : y = 0 := h0 0 y (by omega) (by simp)
   simp only [firstE, hy, if_true]; exact ih (by simpa using hk) fun i z hi hz => h0 (i + 1) z (by omega) (by simpa using hz)
theorem firstE_none {xs : List Int} (h0 : ∀ (i : Nat) (y : Int), xs[i]? = some y → y = 0) : firstE xs = 0 :=
 firstE_zero fun x hx => by obtain ⟨i, hi⟩ := List.getElem?_of_mem hx; exact h0 i x hi

set_option maxRecDepth 100000 in
set_option maxHeartbeats 1000000 in
theorem orE_calls (g off cap : Nat) (xs : List Int) (w : World) (hn : xs.length ≤ 1000000) (hc : NumsAt w g off xs) :
  Calls Tryz.prog 33 #[.slice (some ⟨g, off, none⟩) xs.length cap] w fun e w' => e = .returned (.int .i64 (firstE xs)) ∧ w = w' := by
 have Hc := Lib.hid hc
 clear hc
 go_enter Tryz.func33, Tryz.ntmps33
 go_wp2_with fail
 go_loop [8] (fun i => ∃ k : Nat, k ≤ xs.length ∧ i = .int .i64 k ∧ Hid (∀ (i : Nat) (y : Int), i < k → xs[i]? = some y → y = 0)) (fun i => xs.length - (intOf i).toNat)
 case atStart => exact ⟨0, Nat.zero_le _, rfl, Lib.hid fun i y hi => by omega⟩
 case round =>
  obtain ⟨k, hk, rfl, H0⟩ := hrel; by_cases hlt : k < xs.length
  ·obtain ⟨x, hx⟩ : ∃ x, xs[k]? = some x := ⟨xs[k], List.getElem?_eq_getElem hlt⟩
   have hcell := Hc.out k x hx; have Hx := Lib.hid hx; clear hx; by_cases hz : x = 0
   ·subst hz
    go_wp2_with fail
    go_round
    case rel => exact ⟨k + 1, by omega, by go_num, Lib.hid fun i y hi hy => by
     rcases Nat.lt_succ_iff_lt_or_eq.1 hi with h | rfl
     ·exact H0.out i y h hy
     ·rw [Hx.out] at hy; exact (Option.some.inj hy).symm⟩
    case measure => simp [intOf]; omega
   ·have e1 : (x != 0) = true := by simp [hz]
    have Hz := Lib.hid hz; clear hz; go_wp2_with fail
    go_ret
    exact ⟨ret_int (firstE_hit Hx.out H0.out Hz.out).symm, rfl⟩
  ·obtain rfl : k = xs.length := by omega
   go_wp2_with fail
   go_ret
   exact ⟨ret_int (firstE_none fun i y hy => H0.out i y (List.getElem?_eq_some_iff.1 hy).1 hy).symm, rfl⟩

end Go.Proofs.YtddnnjblpgfjeaaGreatDoor
