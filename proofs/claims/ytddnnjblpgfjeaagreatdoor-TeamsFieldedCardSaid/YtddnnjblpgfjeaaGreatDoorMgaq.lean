/- api.Asset put in order, by the kit's contracts. -/
import Derived.Test.YtddnnjblpgfjeaaGreatDoorMgao
import Derived.Test.YtddnnjblpgfjeaaGreatDoorMgaf
import Derived.Test.YtddnnjblpgfjeaaGreatDoorMgae
import Derived.Sort.Grow
import Derived.Test.YtddnnjblpgfjeaaGreatDoorMgap
import Derived.Shelf.SlSortCmp.SmallK
/- Worlds that have only grown and drawn; cmp.Or at ints. -/
namespace Go.Proofs.YtddnnjblpgfjeaaGreatDoor
open Go.RowKit Go.Sort

/-- Drawn from, and with new blocks behind. -/
def Gro (W w' : World) : Prop := ∃ (q : Nat) (os : Array Obj), w' = grow (W.drewN q) os
theorem Gro.refl (W : World) : Gro W W := ⟨0, #[], by simp; rfl⟩
theorem Gro.alloc {W w' : World} (h : Gro W w') (o : Obj) : Gro W (w'.alloc o) := by
 obtain ⟨q, os, rfl⟩ := h
 exact ⟨q, os ++ #[o], by rw [alloc_eq_grow, grow_grow]⟩
theorem Gro.drewN {W w' : World} (h : Gro W w') (n : Nat) : Gro W (w'.drewN n) := by
 obtain ⟨q, os, rfl⟩ := h
 refine ⟨q + n, os, ?_⟩
 unfold grow World.drewN
 simp [Nat.add_assoc]
theorem Gro.drew {W w' : World} (h : Gro W w') : Gro W w'.drew := h.drewN 1
theorem Gro.below {W w' : World} (h : Gro W w') : Below W.heap.size W w' := by
 obtain ⟨q, os, rfl⟩ := h
 exact ⟨rfl, rfl, rfl, by first | (simp [grow]; done) | (simp [grow]; omega), fun i hi => by
  show ((W.drewN q).heap ++ os)[i]? = _
  rw [Array.getElem?_append_left (by show i < W.heap.size; omega)]
  rfl⟩
theorem Gro.trans {a b c : World} (h : Gro a b) (k : Gro b c) : Gro a c := by
 obtain ⟨q, os, rfl⟩ := h
 obtain ⟨q', os', rfl⟩ := k
 refine ⟨q + q', os ++ os', ?_⟩
 unfold grow World.drewN
 simp [Nat.add_assoc, Array.append_assoc]
/-- What a comparing function answers. -/
def CmpIs (x : Int) (w : World) (e : Ending) (w' : World) : Prop := e = .returned (.int .i64 x) ∧ Gro w w'
set_option maxRecDepth 100000 in
set_option maxHeartbeats 1000000 in
theorem orInt_calls (g off cap : Nat) (xs : List Int) (w : World) (hn : xs.length ≤ 1000000) (hc : NumsAt w g off xs) :
  Calls Tryz.prog 65 #[.slice (some ⟨g, off, none⟩) xs.length cap] w fun e w' => e = .returned (.int .i64 (firstE xs)) ∧ w = w' := by
 have Hc := Lib.hid hc
 clear hc
 go_enter Tryz.func65, Tryz.ntmps65
 go_wp2_with fail
 go_loop [8] (fun i => ∃ k : Nat, k ≤ xs.length ∧ i = .int .i64 k ∧ Hid (∀ (i : Nat) (y : Int), i < k → xs[i]? = some y → y = 0)) (fun i => xs.length - (intOf i).toNat)
 case atStart => exact ⟨0, Nat.zero_le _, rfl, Lib.hid fun i y hi => by omega⟩
 case round =>
  obtain ⟨k, hk, rfl, H0⟩ := hrel; by_cases hlt : k < xs.length
  ·obtain ⟨x, hx⟩ : ∃ x, xs[k]? = some x := ⟨xs[k], List.getElem?_eq_getElem hlt⟩
   have hcell := Hc.out k x hx; have Hx := Lib.hid hx; clear hx; by_cases hz : x = 0
   ·subst hz
    go_wp2_with fail
    go_round
    case rel => exact ⟨k + 1, by omega, by go_num, Lib.hid fun i y hi hy => by
     rcases Nat.lt_succ_iff_lt_or_eq.1 hi with h | rfl
     ·exact H0.out i y h hy
     ·rw [Hx.out] at hy; exact (Option.some.inj hy).symm⟩
    case measure => simp [intOf]; omega
   ·have e1 : (x != 0) = true := by simp [hz]
    have Hz := Lib.hid hz; clear hz; go_wp2_with fail
    go_ret
    exact ⟨ret_int (firstE_hit Hx.out H0.out Hz.out).symm, rfl⟩
  ·obtain rfl : k = xs.length := by omega
   go_wp2_with fail
   go_ret
   exact ⟨ret_int (firstE_none fun i y hy => H0.out i y (List.getElem?_eq_some_iff.1 hy).1 hy).symm, rfl⟩
theorem strCmp_calls (a b : ByteArray) (w : World) :
  Calls Tryz.prog 66 #[.string a, .string b] w fun e w' => e = .returned (.int .i64 (cmpS a b)) ∧ w = w' := by
 rw [← cmpS_eq]
 exact strCompare_calls a b w
theorem intCmp_calls (a b : Int) (w : World) :
  Calls Tryz.prog 67 #[.int .i64 a, .int .i64 b] w fun e w' => e = .returned (.int .i64 (Lib.compareInt a b)) ∧ w = w' :=
 (Tryz.cmp_Compare_int a b w).mono fun _ _ ⟨h1, h2⟩ => ⟨h1, h2.symm⟩
theorem bitsLen_calls (n : Nat) (W : World) (h : n ≤ 12) : Calls Tryz.prog 121 #[.int .u64 n] W fun e w' => (∃ l : Int, e = .returned (.int .i64 l)) ∧ w' = W :=
 (Tryz.bits_Len n W (by omega) (by omega)).mono fun _ _ ⟨he, hw⟩ => ⟨⟨_, he⟩, hw⟩
end Go.Proofs.YtddnnjblpgfjeaaGreatDoor
namespace Go.Proofs.YtddnnjblpgfjeaaGreatDoor
open Go.RowKit Go.Sort

def SortedAs (cf : AsD → AsD → Int) (g off : Nat) (xs : List AsD) (w : World) (e : Ending) (w' : World) : Prop := e = .returned (.tuple #[]) ∧ RowsAt w' 78 g off 3 ((insL cf xs).map asRow) ∧ w.grownBy w' (some g)
theorem as_one : ∀ (x : AsD), ∀ v ∈ asRow x, v.oneCell' = true := by
 intro x v hv
 simp only [asRow, List.mem_cons, List.not_mem_nil, or_false] at hv
 rcases hv with rfl | rfl | rfl <;> rfl
set_option maxRecDepth 100000 in
set_option maxHeartbeats 2000000 in
theorem insAs_calls (cf : AsD → AsD → Int) (G : Nat) (caps : Array Value) (g off cap : Nat) (xs : List AsD) (w : World) (hv : RowsAt w 78 g off 3 (xs.map asRow)) (hn : xs.length ≤ 1000000) (eg : ∀ args w, (callFunc G args).run Tryz.prog w = .ok (.enter G args) w)
  (hG : ∀ (W : World) (x y : AsD), w.grownBy W (some g) → Calls Tryz.prog G (#[.agg #[.string x.player, .string x.pos, .int .i64 x.value], .agg #[.string y.player, .string y.pos, .int .i64 y.value]] ++ caps) W (CmpIs (cf x y) W)) :
  Calls Tryz.prog 205 #[.slice (some ⟨g, off, none⟩) xs.length cap, .int .i64 0, .int .i64 (xs.length : Int), .func (.func G) #[] caps] w (SortedAs cf g off xs w) := by
 have hH := rowsAt_holdsK (enc := asRow) (d := xs.toArray) (w := w) (T := 78) (g := g) (off := off) (sz := 3) (by simpa using hv) (fun _ => rfl)
 have hcmp : CmpLays Tryz.prog G caps asRow 3 cf g off xs.toArray.size w := fun m os dk hdk x y => hG _ x y (gb_sortK _ _ _ _ _ _ _ _)
 have hb : g < w.heap.size := hv.lt
 have C := Tryz.insertion_As asRow (fun _ => rfl) as_one cf G caps g off cap 0 xs.length xs.toArray w eg hcmp hH hb (Nat.zero_le _) (by simp) (by simp; omega)
 rw [List.size_toArray] at C
 refine C.mono ?_
 rintro e w' ⟨rfl, n, os, rfl⟩
 refine ⟨rfl, ?_, gb_sortK _ _ _ _ _ _ _ _⟩
 have hsz : (insertionSort (ltC cf) xs.toArray 0 xs.length).size = xs.toArray.size := by
  have := (insL_len cf xs); unfold insL at this; simpa using this
 have := rowsAt_sortK (n := n) (os := os) (enc := asRow) (d := xs.toArray) (d' := insertionSort (ltC cf) xs.toArray 0 xs.length) (w := w) (T := 78) (g := g) (off := off) (sz := 3) (by simpa using hv) (fun _ => rfl) hsz
 exact this
set_option maxRecDepth 100000 in
set_option maxHeartbeats 2000000 in
theorem sortAs_calls (cf : AsD → AsD → Int) (G : Nat) (caps : Array Value) (g off cap : Nat) (xs : List AsD) (w : World) (hv : RowsAt w 78 g off 3 (xs.map asRow)) (hn : xs.length ≤ 12) (eg : ∀ args w, (callFunc G args).run Tryz.prog w = .ok (.enter G args) w)
  (hG : ∀ (W : World) (x y : AsD), w.grownBy W (some g) → Calls Tryz.prog G (#[.agg #[.string x.player, .string x.pos, .int .i64 x.value], .agg #[.string y.player, .string y.pos, .int .i64 y.value]] ++ caps) W (CmpIs (cf x y) W)) :
  Calls Tryz.prog 151 #[.slice (some ⟨g, off, none⟩) xs.length cap, .func (.func G) #[] caps] w (SortedAs cf g off xs w) := by
 have hH := rowsAt_holdsK (enc := asRow) (d := xs.toArray) (w := w) (T := 78) (g := g) (off := off) (sz := 3) (by simpa using hv) (fun _ => rfl)
 have hcmp : CmpLays Tryz.prog G caps asRow 3 cf g off xs.toArray.size w := fun m os dk hdk x y => hG _ x y (gb_sortK _ _ _ _ _ _ _ _)
 have hb : g < w.heap.size := hv.lt
 have C := Tryz.sortFunc_As asRow (fun _ => rfl) as_one cf G caps g off cap xs.toArray w eg hcmp hH hb (by simpa using hn) bitsLen_calls
 rw [List.size_toArray] at C
 refine C.mono ?_
 rintro e w' ⟨rfl, n, os, rfl⟩
 refine ⟨rfl, ?_, gb_sortK _ _ _ _ _ _ _ _⟩
 have hsz : (insertionSort (ltC cf) xs.toArray 0 xs.length).size = xs.toArray.size := by
  have := (insL_len cf xs); unfold insL at this; simpa using this
 have := rowsAt_sortK (n := n) (os := os) (enc := asRow) (d := xs.toArray) (d' := insertionSort (ltC cf) xs.toArray 0 xs.length) (w := w) (T := 78) (g := g) (off := off) (sz := 3) (by simpa using hv) (fun _ => rfl) hsz
 exact this
set_option maxRecDepth 100000 in
set_option maxHeartbeats 2000000 in
theorem insAs0_calls (G : Nat) (caps : Array Value) (w : World) : Calls Tryz.prog 205 #[.slice none 0 0, .int .i64 0, .int .i64 0, .func (.func G) #[] caps] w fun e w' => e = .returned (.tuple #[]) ∧ w = w' := by
 go_enter Tryz.func205, Tryz.ntmps205
 go_wp2_with fail
 refine wp_loop_rounds 1 ?_
 rw [rounds_succ]
 go_wp2_with fail
 go_end0
 exact ⟨rfl, rfl⟩
set_option maxRecDepth 100000 in
set_option maxHeartbeats 2000000 in
theorem pdqAs0_calls (l : Int) (G : Nat) (caps : Array Value) (w : World) : Calls Tryz.prog 186 #[.slice none 0 0, .int .i64 0, .int .i64 0, .int .i64 l, .func (.func G) #[] caps] w fun e w' => e = .returned (.tuple #[]) ∧ w = w' := by
 go_enter Tryz.func186, Tryz.ntmps186
 go_wp2_with fail
 refine wp_loop_rounds 1 ?_
 rw [rounds_succ]
 go_wp2_with fail
 refine (insAs0_calls G caps _).mono ?_
 rintro e w' ⟨rfl, rfl⟩
 go_wp2_with fail
 (try simp only [Exit.inBlock, Exit.then]); refine bodyPost_ret (results_none rfl _ _ _) rfl ?_
 exact ⟨rfl, rfl⟩
set_option maxRecDepth 100000 in
set_option maxHeartbeats 2000000 in
theorem sortAs0_calls (G : Nat) (caps : Array Value) (w : World) : Calls Tryz.prog 151 #[.slice none 0 0, .func (.func G) #[] caps] w fun e w' => e = .returned (.tuple #[]) ∧ w = w' := by
 have CB := Lib.hid (bitsLen_calls 0 w (by omega))
 go_enter Tryz.func151, Tryz.ntmps151
 go_wp2_with fail
 refine CB.out.mono ?_
 rintro e w' ⟨⟨l, rfl⟩, rfl⟩
 go_wp2_with fail
 refine (pdqAs0_calls l G caps _).mono ?_
 rintro e w' ⟨rfl, rfl⟩
 go_wp2_with fail
 go_end0
 exact ⟨rfl, rfl⟩
set_option maxRecDepth 100000 in
set_option maxHeartbeats 2000000 in
theorem stableAs_calls (cf : AsD → AsD → Int) (G : Nat) (caps : Array Value) (g off cap : Nat) (xs : List AsD) (w : World) (hv : RowsAt w 78 g off 3 (xs.map asRow)) (hn : xs.length ≤ 19) (eg : ∀ args w, (callFunc G args).run Tryz.prog w = .ok (.enter G args) w)
  (hG : ∀ (W : World) (x y : AsD), w.grownBy W (some g) → Calls Tryz.prog G (#[.agg #[.string x.player, .string x.pos, .int .i64 x.value], .agg #[.string y.player, .string y.pos, .int .i64 y.value]] ++ caps) W (CmpIs (cf x y) W)) :
  Calls Tryz.prog 187 #[.slice (some ⟨g, off, none⟩) xs.length cap, .int .i64 (xs.length : Int), .func (.func G) #[] caps] w (SortedAs cf g off xs w) := by
 have C := Lib.hid (insAs_calls cf G caps g off cap xs w hv (by omega) eg hG)
 unfold SortedAs at C ⊢
 generalize insL cf xs = ys at C ⊢
 clear hv hG eg
 generalize xs.length = n at hn C ⊢
 have e1 : decide (20 ≤ n) = false := by simp; omega
 have e2 : decide (20 < n) = false := by simp; omega
 go_enter Tryz.func187, Tryz.ntmps187
 go_wp2_with fail
 refine wp_loop_rounds 1 ?_
 rw [rounds_succ]
 go_wp2_with fail
 refine C.out.mono ?_
 rintro e w' ⟨rfl, h1, h2⟩
 have H := Lib.hid (And.intro h1 h2)
 clear h1 h2
 go_wp2_with fail
 refine wp_loop_rounds 1 ?_
 rw [rounds_succ]
 go_wp2_with fail
 go_end0
 exact ⟨rfl, H.out.1, H.out.2⟩
set_option maxRecDepth 100000 in
set_option maxHeartbeats 2000000 in
theorem sortStableAs_calls (cf : AsD → AsD → Int) (G : Nat) (caps : Array Value) (g off cap : Nat) (xs : List AsD) (w : World) (hv : RowsAt w 78 g off 3 (xs.map asRow)) (hn : xs.length ≤ 19) (eg : ∀ args w, (callFunc G args).run Tryz.prog w = .ok (.enter G args) w)
  (hG : ∀ (W : World) (x y : AsD), w.grownBy W (some g) → Calls Tryz.prog G (#[.agg #[.string x.player, .string x.pos, .int .i64 x.value], .agg #[.string y.player, .string y.pos, .int .i64 y.value]] ++ caps) W (CmpIs (cf x y) W)) :
  Calls Tryz.prog 155 #[.slice (some ⟨g, off, none⟩) xs.length cap, .func (.func G) #[] caps] w (SortedAs cf g off xs w) := by
 have C := Lib.hid (stableAs_calls cf G caps g off cap xs w hv hn eg hG)
 unfold SortedAs at C ⊢
 generalize insL cf xs = ys at C ⊢
 clear hv hG eg
 generalize xs.length = n at hn C ⊢
 go_enter Tryz.func155, Tryz.ntmps155
 go_wp2_with fail
 refine C.out.mono ?_
 rintro e w' ⟨rfl, h1, h2⟩
 have H := Lib.hid (And.intro h1 h2)
 clear h1 h2
 go_wp2_with fail
 go_end0
 exact ⟨rfl, H.out.1, H.out.2⟩
set_option maxRecDepth 100000 in
set_option maxHeartbeats 2000000 in
theorem stableAs0_calls (G : Nat) (caps : Array Value) (w : World) : Calls Tryz.prog 187 #[.slice none 0 0, .int .i64 0, .func (.func G) #[] caps] w fun e w' => e = .returned (.tuple #[]) ∧ w = w' := by
 go_enter Tryz.func187, Tryz.ntmps187
 go_wp2_with fail
 refine wp_loop_rounds 1 ?_
 rw [rounds_succ]
 go_wp2_with fail
 refine (insAs0_calls G caps w).mono ?_
 rintro e w' ⟨rfl, rfl⟩
 go_wp2_with fail
 refine wp_loop_rounds 1 ?_
 rw [rounds_succ]
 go_wp2_with fail
 go_end0
 exact ⟨rfl, rfl⟩
set_option maxRecDepth 100000 in
set_option maxHeartbeats 2000000 in
theorem sortStableAs0_calls (G : Nat) (caps : Array Value) (w : World) : Calls Tryz.prog 155 #[.slice none 0 0, .func (.func G) #[] caps] w fun e w' => e = .returned (.tuple #[]) ∧ w = w' := by
 go_enter Tryz.func155, Tryz.ntmps155
 go_wp2_with fail
 refine (stableAs0_calls G caps w).mono ?_
 rintro e w' ⟨rfl, rfl⟩
 go_wp2_with fail
 go_end0
 exact ⟨rfl, rfl⟩
end Go.Proofs.YtddnnjblpgfjeaaGreatDoor
