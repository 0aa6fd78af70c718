/- Walks of check.Each and cmp.Or: the first error of some. -/
import Derived.Test.YtmejjkicagkogaaGreatDoorChk
namespace Go.Proofs.YtmejjkicagkogaaGreatDoor
open Go.RowKit

theorem firstE_append (a b : List Int) : firstE (a ++ b) = if firstE a = 0 then firstE b else firstE a := by
  induction a with
  | nil => simp [firstE]
  | cons x xs ih =>
    simp only [List.cons_append, firstE]
    by_cases hx : x = 0 <;> simp [hx, ih]
theorem firstE_zero {a : List Int} (h : ∀ x ∈ a, x = 0) : firstE a = 0 := by
  induction a with
  | nil => rfl
  | cons x xs ih =>
    have hx := h x (by simp)
    simp [firstE, hx, ih fun y hy => h y (by simp [hy])]
/-- The errors of the first n, each asked for in turn. -/
def errsTo (f : Nat → Int) (n : Nat) : Int := firstE ((List.range n).map f)
theorem errsTo_hit {f : Nat → Int} {n k : Nat} (hk : k < n) (h0 : ∀ i, i < k → f i = 0) (h : f k ≠ 0) : errsTo f n = f k := by
  obtain ⟨m, rfl⟩ : ∃ m, n = k + 1 + m := ⟨n - (k + 1), by omega⟩
  unfold errsTo
  rw [List.range_add, List.map_append, firstE_append, List.range_succ, List.map_append, firstE_append, firstE_zero (fun x hx => by
    obtain ⟨i, hi, rfl⟩ := List.mem_map.1 hx
    exact h0 i (List.mem_range.1 hi))]
  simp [firstE, h]
theorem errsTo_none {f : Nat → Int} {n : Nat} (h0 : ∀ i, i < n → f i = 0) : errsTo f n = 0 :=
  firstE_zero fun x hx => by
    obtain ⟨i, hi, rfl⟩ := List.mem_map.1 hx
    exact h0 i (List.mem_range.1 hi)
/-- What Each answers. -/
def eachE (n most : Int) (f : Nat → Int) : Int := if most < n then 2 else errsTo f n.toNat

def IntBelow (x : Int) (w : World) (e : Ending) (w' : World) : Prop := e = .returned (.int .i64 x) ∧ Below w.heap.size w w'

set_option maxRecDepth 100000 in
set_option maxHeartbeats 1000000 in
theorem each_calls (g : Nat) (caps : Array Value) (eg : ∀ args w, (callFunc g args).run Tryz.prog w = .ok (.enter g args) w) (f : Nat → Int) (n : Nat) (most : Int) (w : World) (hn : n ≤ 1000000)
    (hf : ∀ (W : World) (i : Nat), i < n → Below w.heap.size w W → Calls Tryz.prog g (#[.int .i64 (i : Int)] ++ caps) W (IntBelow (f i) W)) :
    Calls Tryz.prog 47 #[.int .i64 (n : Int), .int .i64 most, .func (.func g) #[] caps] w (IntBelow (eachE n most f) w) := by
  by_cases hm : most < (n : Int)
  · go_enter Tryz.func47, Tryz.ntmps47
    go_wp2
    go_ret
    exact ⟨ret_int (by simp [eachE, hm]), Below.refl _ _⟩
  · have he := Lib.hid (show eachE n most f = errsTo f n by simp [eachE, hm])
    have Hf := Lib.hid hf
    clear hf
    go_enter Tryz.func47, Tryz.ntmps47
    go_wp2_with fail
    go_loopw [13] (fun i wr => ∃ k : Nat, k ≤ n ∧ i = .int .i64 k ∧ Below w.heap.size w wr ∧ Hid (∀ i, i < k → f i = 0)) (fun i _ => n - (intOf i).toNat)
    case atStart => exact ⟨0, Nat.zero_le _, rfl, Below.refl _ _, Lib.hid fun i hi => by omega⟩
    case round =>
      obtain ⟨k, hk, rfl, hb, H0⟩ := hrel
      by_cases hlt : k < n
      · go_wp2_with fail
        refine (Hf.out wr k hlt hb).mono ?_
        rintro e w' ⟨rfl, hb'⟩
        have hb2 := hb.trans (hb'.mono hb.size)
        by_cases hz : f k = 0
        · have e1 : (f k != 0) = false := by simp [hz]
          have Hz := Lib.hid hz
          clear hz
          go_wp2_with fail
          go_roundw
          case rel => exact ⟨k + 1, by omega, by go_num, hb2, Lib.hid fun i hi => by
            rcases Nat.lt_succ_iff_lt_or_eq.1 hi with h | rfl
            · exact H0.out i h
            · exact Hz.out⟩
          case measure => simp [intOf]; omega
        · have e1 : (f k != 0) = true := by simp [hz]
          have Hz := Lib.hid hz
          clear hz
          go_wp2_with fail
          go_ret
          exact ⟨ret_int (by rw [he.out, errsTo_hit hlt H0.out Hz.out]), hb2⟩
      · obtain rfl : k = n := by omega
        go_wp2_with fail
        go_ret
        exact ⟨ret_int (by rw [he.out, errsTo_none H0.out]), hb⟩

/-- A slice of numbers, as cells. -/
def NumsAt (w : World) (g : Nat) (off : Nat) (xs : List Int) : Prop := ∀ (i : Nat) (x : Int), xs[i]? = some x → w.cell? ⟨g, off + i, none⟩ = some (.int .i64 x)
theorem firstE_hit {xs : List Int} {k : Nat} {x : Int} (hk : xs[k]? = some x) (h0 : ∀ i y, i < k → xs[i]? = some y → y = 0) (h : x ≠ 0) : firstE xs = x := by
  induction xs generalizing k with
  | nil => simp at hk
  | cons y ys ih =>
    cases k with
    | zero => simp at hk; subst hk; simp [firstE, h]
    | succ k =>
      have hy : y = 0 := h0 0 y (by omega) (by simp)
      simp only [firstE, hy, if_true]
      exact ih (by simpa using hk) fun i z hi hz => h0 (i + 1) z (by omega) (by simpa using hz)
theorem firstE_none {xs : List Int} (h0 : ∀ (i : Nat) (y : Int), xs[i]? = some y → y = 0) : firstE xs = 0 :=
  firstE_zero fun x hx => by obtain ⟨i, hi⟩ := List.getElem?_of_mem hx; exact h0 i x hi

set_option maxRecDepth 100000 in
set_option maxHeartbeats 1000000 in
theorem orE_calls (g off cap : Nat) (xs : List Int) (w : World) (hn : xs.length ≤ 1000000) (hc : NumsAt w g off xs) :
    Calls Tryz.prog 49 #[.slice (some ⟨g, off, none⟩) xs.length cap] w fun e w' => e = .returned (.int .i64 (firstE xs)) ∧ w = w' := by
  have Hc := Lib.hid hc
  clear hc
  go_enter Tryz.func49, Tryz.ntmps49
  go_wp2_with fail
  go_loop [8] (fun i => ∃ k : Nat, k ≤ xs.length ∧ i = .int .i64 k ∧ Hid (∀ (i : Nat) (y : Int), i < k → xs[i]? = some y → y = 0)) (fun i => xs.length - (intOf i).toNat)
  case atStart => exact ⟨0, Nat.zero_le _, rfl, Lib.hid fun i y hi => by omega⟩
  case round =>
    obtain ⟨k, hk, rfl, H0⟩ := hrel
    by_cases hlt : k < xs.length
    · obtain ⟨x, hx⟩ : ∃ x, xs[k]? = some x := ⟨xs[k], List.getElem?_eq_getElem hlt⟩
      have hcell := Hc.out k x hx
      have Hx := Lib.hid hx
      clear hx
      by_cases hz : x = 0
      · subst hz
        go_wp2_with fail
        go_round
        case rel => exact ⟨k + 1, by omega, by go_num, Lib.hid fun i y hi hy => by
          rcases Nat.lt_succ_iff_lt_or_eq.1 hi with h | rfl
          · exact H0.out i y h hy
          · rw [Hx.out] at hy; exact (Option.some.inj hy).symm⟩
        case measure => simp [intOf]; omega
      · have e1 : (x != 0) = true := by simp [hz]
        have Hz := Lib.hid hz
        clear hz
        go_wp2_with fail
        go_ret
        exact ⟨ret_int (firstE_hit Hx.out H0.out Hz.out).symm, rfl⟩
    · obtain rfl : k = xs.length := by omega
      go_wp2_with fail
      go_ret
      exact ⟨ret_int (firstE_none fun i y hy => H0.out i y (List.getElem?_eq_some_iff.1 hy).1 hy).symm, rfl⟩

end Go.Proofs.YtmejjkicagkogaaGreatDoor
