/- Assets compared, ranked, picked out. -/
import Derived.Test.YtddnnjblpgfjeaaGreatDoorMgan
import Derived.Test.YtddnnjblpgfjeaaGreatDoorMgaf
import Derived.Test.YtddnnjblpgfjeaaGreatDoorMgae
import Derived.Sort.Grow
import Derived.Test.YtddnnjblpgfjeaaGreatDoorMgao
import Derived.Shelf.SlSortCmp.SmallK
import Derived.Lib.Small
import Derived.Test.YtddnnjblpgfjeaaGreatDoorMgac
import Derived.Test.YtddnnjblpgfjeaaGreatDoorMgad
/- Worlds that have only grown and drawn; cmp.Or at ints. -/
namespace Go.Proofs.YtddnnjblpgfjeaaGreatDoor
open Go.RowKit Go.Sort

/-- Drawn from, and with new blocks behind. -/
def Gro (W w' : World) : Prop := ∃ (q : Nat) (os : Array Obj), w' = grow (W.drewN q) os
theorem Gro.refl (W : World) : Gro W W := ⟨0, #[], by simp; rfl⟩
theorem Gro.alloc {W w' : World} (h : Gro W w') (o : Obj) : Gro W (w'.alloc o) := by
 obtain ⟨q, os, rfl⟩ := h
 exact ⟨q, os ++ #[o], by rw [alloc_eq_grow, grow_grow]⟩
theorem Gro.drewN {W w' : World} (h : Gro W w') (n : Nat) : Gro W (w'.drewN n) := by
 obtain ⟨q, os, rfl⟩ := h
 refine ⟨q + n, os, ?_⟩
 unfold grow World.drewN
 simp [Nat.add_assoc]
theorem Gro.drew {W w' : World} (h : Gro W w') : Gro W w'.drew := h.drewN 1
theorem Gro.below {W w' : World} (h : Gro W w') : Below W.heap.size W w' := by
 obtain ⟨q, os, rfl⟩ := h
 exact ⟨rfl, rfl, rfl, by first | (simp [grow]; done) | (simp [grow]; omega), fun i hi => by
  show ((W.drewN q).heap ++ os)[i]? = _
  rw [Array.getElem?_append_left (by show i < W.heap.size; omega)]
  rfl⟩
theorem Gro.trans {a b c : World} (h : Gro a b) (k : Gro b c) : Gro a c := by
 obtain ⟨q, os, rfl⟩ := h
 obtain ⟨q', os', rfl⟩ := k
 refine ⟨q + q', os ++ os', ?_⟩
 unfold grow World.drewN
 simp [Nat.add_assoc, Array.append_assoc]
/-- What a comparing function answers. -/
def CmpIs (x : Int) (w : World) (e : Ending) (w' : World) : Prop := e = .returned (.int .i64 x) ∧ Gro w w'
set_option maxRecDepth 100000 in
set_option maxHeartbeats 1000000 in
theorem orInt_calls (g off cap : Nat) (xs : List Int) (w : World) (hn : xs.length ≤ 1000000) (hc : NumsAt w g off xs) :
  Calls Tryz.prog 65 #[.slice (some ⟨g, off, none⟩) xs.length cap] w fun e w' => e = .returned (.int .i64 (firstE xs)) ∧ w = w' := by
 have Hc := Lib.hid hc
 clear hc
 go_enter Tryz.func65, Tryz.ntmps65
 go_wp2_with fail
 go_loop [8] (fun i => ∃ k : Nat, k ≤ xs.length ∧ i = .int .i64 k ∧ Hid (∀ (i : Nat) (y : Int), i < k → xs[i]? = some y → y = 0)) (fun i => xs.length - (intOf i).toNat)
 case atStart => exact ⟨0, Nat.zero_le _, rfl, Lib.hid fun i y hi => by omega⟩
 case round =>
  obtain ⟨k, hk, rfl, H0⟩ := hrel; by_cases hlt : k < xs.length
  ·obtain ⟨x, hx⟩ : ∃ x, xs[k]? = some x := ⟨xs[k], List.getElem?_eq_getElem hlt⟩
   have hcell := Hc.out k x hx; have Hx := Lib.hid hx; clear hx; by_cases hz : x = 0
   ·subst hz
    go_wp2_with fail
    go_round
    case rel => exact ⟨k + 1, by omega, by go_num, Lib.hid fun i y hi hy => by
     rcases Nat.lt_succ_iff_lt_or_eq.1 hi with h | rfl
     ·exact H0.out i y h hy
     ·rw [Hx.out] at hy; exact (Option.some.inj hy).symm⟩
    case measure => simp [intOf]; omega
   ·have e1 : (x != 0) = true := by simp [hz]
    have Hz := Lib.hid hz; clear hz; go_wp2_with fail
    go_ret
    exact ⟨ret_int (firstE_hit Hx.out H0.out Hz.out).symm, rfl⟩
  ·obtain rfl : k = xs.length := by omega
   go_wp2_with fail
   go_ret
   exact ⟨ret_int (firstE_none fun i y hy => H0.out i y (List.getElem?_eq_some_iff.1 hy).1 hy).symm, rfl⟩
theorem strCmp_calls (a b : ByteArray) (w : World) :
  Calls Tryz.prog 66 #[.string a, .string b] w fun e w' => e = .returned (.int .i64 (cmpS a b)) ∧ w = w' := by
 rw [← cmpS_eq]
 exact strCompare_calls a b w
theorem intCmp_calls (a b : Int) (w : World) :
  Calls Tryz.prog 67 #[.int .i64 a, .int .i64 b] w fun e w' => e = .returned (.int .i64 (Lib.compareInt a b)) ∧ w = w' :=
 (Tryz.cmp_Compare_int a b w).mono fun _ _ ⟨h1, h2⟩ => ⟨h1, h2.symm⟩
theorem bitsLen_calls (n : Nat) (W : World) (h : n ≤ 12) : Calls Tryz.prog 121 #[.int .u64 n] W fun e w' => (∃ l : Int, e = .returned (.int .i64 l)) ∧ w' = W :=
 (Tryz.bits_Len n W (by omega) (by omega)).mono fun _ _ ⟨he, hw⟩ => ⟨⟨_, he⟩, hw⟩
end Go.Proofs.YtddnnjblpgfjeaaGreatDoor
/- api.Over put in order, by the kit's contracts. -/
namespace Go.Proofs.YtddnnjblpgfjeaaGreatDoor
open Go.RowKit Go.Sort

def SortedOv (cf : OvD → OvD → Int) (g off : Nat) (xs : List OvD) (w : World) (e : Ending) (w' : World) : Prop := e = .returned (.tuple #[]) ∧ RowsAt w' 74 g off 3 ((insL cf xs).map ovRow) ∧ w.grownBy w' (some g)
theorem ov_one : ∀ (x : OvD), ∀ v ∈ ovRow x, v.oneCell' = true := by
 intro x v hv
 simp only [ovRow, List.mem_cons, List.not_mem_nil, or_false] at hv
 rcases hv with rfl | rfl | rfl <;> rfl
set_option maxRecDepth 100000 in
set_option maxHeartbeats 2000000 in
theorem insOv_calls (cf : OvD → OvD → Int) (G : Nat) (caps : Array Value) (g off cap : Nat) (xs : List OvD) (w : World) (hv : RowsAt w 74 g off 3 (xs.map ovRow)) (hn : xs.length ≤ 1000000) (eg : ∀ args w, (callFunc G args).run Tryz.prog w = .ok (.enter G args) w)
  (hG : ∀ (W : World) (x y : OvD), w.grownBy W (some g) → Calls Tryz.prog G (#[.agg #[.string x.player, .int .i64 x.worth, .int .i64 x.rank], .agg #[.string y.player, .int .i64 y.worth, .int .i64 y.rank]] ++ caps) W (CmpIs (cf x y) W)) :
  Calls Tryz.prog 184 #[.slice (some ⟨g, off, none⟩) xs.length cap, .int .i64 0, .int .i64 (xs.length : Int), .func (.func G) #[] caps] w (SortedOv cf g off xs w) := by
 have hH := rowsAt_holdsK (enc := ovRow) (d := xs.toArray) (w := w) (T := 74) (g := g) (off := off) (sz := 3) (by simpa using hv) (fun _ => rfl)
 have hcmp : CmpLays Tryz.prog G caps ovRow 3 cf g off xs.toArray.size w := fun m os dk hdk x y => hG _ x y (gb_sortK _ _ _ _ _ _ _ _)
 have hb : g < w.heap.size := hv.lt
 have C := Tryz.insertion_Ov ovRow (fun _ => rfl) ov_one cf G caps g off cap 0 xs.length xs.toArray w eg hcmp hH hb (Nat.zero_le _) (by simp) (by simp; omega)
 rw [List.size_toArray] at C
 refine C.mono ?_
 rintro e w' ⟨rfl, n, os, rfl⟩
 refine ⟨rfl, ?_, gb_sortK _ _ _ _ _ _ _ _⟩
 have hsz : (insertionSort (ltC cf) xs.toArray 0 xs.length).size = xs.toArray.size := by
  have := (insL_len cf xs); unfold insL at this; simpa using this
 have := rowsAt_sortK (n := n) (os := os) (enc := ovRow) (d := xs.toArray) (d' := insertionSort (ltC cf) xs.toArray 0 xs.length) (w := w) (T := 74) (g := g) (off := off) (sz := 3) (by simpa using hv) (fun _ => rfl) hsz
 exact this
set_option maxRecDepth 100000 in
set_option maxHeartbeats 2000000 in
theorem insOv0_calls (G : Nat) (caps : Array Value) (w : World) : Calls Tryz.prog 184 #[.slice none 0 0, .int .i64 0, .int .i64 0, .func (.func G) #[] caps] w fun e w' => e = .returned (.tuple #[]) ∧ w = w' := by
 go_enter Tryz.func184, Tryz.ntmps184
 go_wp2_with fail
 refine wp_loop_rounds 1 ?_
 rw [rounds_succ]
 go_wp2_with fail
 go_end0
 exact ⟨rfl, rfl⟩
set_option maxRecDepth 100000 in
set_option maxHeartbeats 2000000 in
theorem stableOv_calls (cf : OvD → OvD → Int) (G : Nat) (caps : Array Value) (g off cap : Nat) (xs : List OvD) (w : World) (hv : RowsAt w 74 g off 3 (xs.map ovRow)) (hn : xs.length ≤ 19) (eg : ∀ args w, (callFunc G args).run Tryz.prog w = .ok (.enter G args) w)
  (hG : ∀ (W : World) (x y : OvD), w.grownBy W (some g) → Calls Tryz.prog G (#[.agg #[.string x.player, .int .i64 x.worth, .int .i64 x.rank], .agg #[.string y.player, .int .i64 y.worth, .int .i64 y.rank]] ++ caps) W (CmpIs (cf x y) W)) :
  Calls Tryz.prog 146 #[.slice (some ⟨g, off, none⟩) xs.length cap, .int .i64 (xs.length : Int), .func (.func G) #[] caps] w (SortedOv cf g off xs w) := by
 have C := Lib.hid (insOv_calls cf G caps g off cap xs w hv (by omega) eg hG)
 unfold SortedOv at C ⊢
 generalize insL cf xs = ys at C ⊢
 clear hv hG eg
 generalize xs.length = n at hn C ⊢
 have e1 : decide (20 ≤ n) = false := by simp; omega
 have e2 : decide (20 < n) = false := by simp; omega
 go_enter Tryz.func146, Tryz.ntmps146
 go_wp2_with fail
 refine wp_loop_rounds 1 ?_
 rw [rounds_succ]
 go_wp2_with fail
 refine C.out.mono ?_
 rintro e w' ⟨rfl, h1, h2⟩
 have H := Lib.hid (And.intro h1 h2)
 clear h1 h2
 go_wp2_with fail
 refine wp_loop_rounds 1 ?_
 rw [rounds_succ]
 go_wp2_with fail
 go_end0
 exact ⟨rfl, H.out.1, H.out.2⟩
set_option maxRecDepth 100000 in
set_option maxHeartbeats 2000000 in
theorem sortStableOv_calls (cf : OvD → OvD → Int) (G : Nat) (caps : Array Value) (g off cap : Nat) (xs : List OvD) (w : World) (hv : RowsAt w 74 g off 3 (xs.map ovRow)) (hn : xs.length ≤ 19) (eg : ∀ args w, (callFunc G args).run Tryz.prog w = .ok (.enter G args) w)
  (hG : ∀ (W : World) (x y : OvD), w.grownBy W (some g) → Calls Tryz.prog G (#[.agg #[.string x.player, .int .i64 x.worth, .int .i64 x.rank], .agg #[.string y.player, .int .i64 y.worth, .int .i64 y.rank]] ++ caps) W (CmpIs (cf x y) W)) :
  Calls Tryz.prog 101 #[.slice (some ⟨g, off, none⟩) xs.length cap, .func (.func G) #[] caps] w (SortedOv cf g off xs w) := by
 have C := Lib.hid (stableOv_calls cf G caps g off cap xs w hv hn eg hG)
 unfold SortedOv at C ⊢
 generalize insL cf xs = ys at C ⊢
 clear hv hG eg
 generalize xs.length = n at hn C ⊢
 go_enter Tryz.func101, Tryz.ntmps101
 go_wp2_with fail
 refine C.out.mono ?_
 rintro e w' ⟨rfl, h1, h2⟩
 have H := Lib.hid (And.intro h1 h2)
 clear h1 h2
 go_wp2_with fail
 go_end0
 exact ⟨rfl, H.out.1, H.out.2⟩
set_option maxRecDepth 100000 in
set_option maxHeartbeats 2000000 in
theorem stableOv0_calls (G : Nat) (caps : Array Value) (w : World) : Calls Tryz.prog 146 #[.slice none 0 0, .int .i64 0, .func (.func G) #[] caps] w fun e w' => e = .returned (.tuple #[]) ∧ w = w' := by
 go_enter Tryz.func146, Tryz.ntmps146
 go_wp2_with fail
 refine wp_loop_rounds 1 ?_
 rw [rounds_succ]
 go_wp2_with fail
 refine (insOv0_calls G caps w).mono ?_
 rintro e w' ⟨rfl, rfl⟩
 go_wp2_with fail
 refine wp_loop_rounds 1 ?_
 rw [rounds_succ]
 go_wp2_with fail
 go_end0
 exact ⟨rfl, rfl⟩
set_option maxRecDepth 100000 in
set_option maxHeartbeats 2000000 in
theorem sortStableOv0_calls (G : Nat) (caps : Array Value) (w : World) : Calls Tryz.prog 101 #[.slice none 0 0, .func (.func G) #[] caps] w fun e w' => e = .returned (.tuple #[]) ∧ w = w' := by
 go_enter Tryz.func101, Tryz.ntmps101
 go_wp2_with fail
 refine (stableOv0_calls G caps w).mono ?_
 rintro e w' ⟨rfl, rfl⟩
 go_wp2_with fail
 go_end0
 exact ⟨rfl, rfl⟩
end Go.Proofs.YtddnnjblpgfjeaaGreatDoor
/- api.Asset put in order, by the kit's contracts. -/
namespace Go.Proofs.YtddnnjblpgfjeaaGreatDoor
open Go.RowKit Go.Sort

def SortedAs (cf : AsD → AsD → Int) (g off : Nat) (xs : List AsD) (w : World) (e : Ending) (w' : World) : Prop := e = .returned (.tuple #[]) ∧ RowsAt w' 78 g off 3 ((insL cf xs).map asRow) ∧ w.grownBy w' (some g)
theorem as_one : ∀ (x : AsD), ∀ v ∈ asRow x, v.oneCell' = true := by
 intro x v hv
 simp only [asRow, List.mem_cons, List.not_mem_nil, or_false] at hv
 rcases hv with rfl | rfl | rfl <;> rfl
set_option maxRecDepth 100000 in
set_option maxHeartbeats 2000000 in
theorem insAs_calls (cf : AsD → AsD → Int) (G : Nat) (caps : Array Value) (g off cap : Nat) (xs : List AsD) (w : World) (hv : RowsAt w 78 g off 3 (xs.map asRow)) (hn : xs.length ≤ 1000000) (eg : ∀ args w, (callFunc G args).run Tryz.prog w = .ok (.enter G args) w)
  (hG : ∀ (W : World) (x y : AsD), w.grownBy W (some g) → Calls Tryz.prog G (#[.agg #[.string x.player, .string x.pos, .int .i64 x.value], .agg #[.string y.player, .string y.pos, .int .i64 y.value]] ++ caps) W (CmpIs (cf x y) W)) :
  Calls Tryz.prog 205 #[.slice (some ⟨g, off, none⟩) xs.length cap, .int .i64 0, .int .i64 (xs.length : Int), .func (.func G) #[] caps] w (SortedAs cf g off xs w) := by
 have hH := rowsAt_holdsK (enc := asRow) (d := xs.toArray) (w := w) (T := 78) (g := g) (off := off) (sz := 3) (by simpa using hv) (fun _ => rfl)
 have hcmp : CmpLays Tryz.prog G caps asRow 3 cf g off xs.toArray.size w := fun m os dk hdk x y => hG _ x y (gb_sortK _ _ _ _ _ _ _ _)
 have hb : g < w.heap.size := hv.lt
 have C := Tryz.insertion_As asRow (fun _ => rfl) as_one cf G caps g off cap 0 xs.length xs.toArray w eg hcmp hH hb (Nat.zero_le _) (by simp) (by simp; omega)
 rw [List.size_toArray] at C
 refine C.mono ?_
 rintro e w' ⟨rfl, n, os, rfl⟩
 refine ⟨rfl, ?_, gb_sortK _ _ _ _ _ _ _ _⟩
 have hsz : (insertionSort (ltC cf) xs.toArray 0 xs.length).size = xs.toArray.size := by
  have := (insL_len cf xs); unfold insL at this; simpa using this
 have := rowsAt_sortK (n := n) (os := os) (enc := asRow) (d := xs.toArray) (d' := insertionSort (ltC cf) xs.toArray 0 xs.length) (w := w) (T := 78) (g := g) (off := off) (sz := 3) (by simpa using hv) (fun _ => rfl) hsz
 exact this
set_option maxRecDepth 100000 in
set_option maxHeartbeats 2000000 in
theorem sortAs_calls (cf : AsD → AsD → Int) (G : Nat) (caps : Array Value) (g off cap : Nat) (xs : List AsD) (w : World) (hv : RowsAt w 78 g off 3 (xs.map asRow)) (hn : xs.length ≤ 12) (eg : ∀ args w, (callFunc G args).run Tryz.prog w = .ok (.enter G args) w)
  (hG : ∀ (W : World) (x y : AsD), w.grownBy W (some g) → Calls Tryz.prog G (#[.agg #[.string x.player, .string x.pos, .int .i64 x.value], .agg #[.string y.player, .string y.pos, .int .i64 y.value]] ++ caps) W (CmpIs (cf x y) W)) :
  Calls Tryz.prog 151 #[.slice (some ⟨g, off, none⟩) xs.length cap, .func (.func G) #[] caps] w (SortedAs cf g off xs w) := by
 have hH := rowsAt_holdsK (enc := asRow) (d := xs.toArray) (w := w) (T := 78) (g := g) (off := off) (sz := 3) (by simpa using hv) (fun _ => rfl)
 have hcmp : CmpLays Tryz.prog G caps asRow 3 cf g off xs.toArray.size w := fun m os dk hdk x y => hG _ x y (gb_sortK _ _ _ _ _ _ _ _)
 have hb : g < w.heap.size := hv.lt
 have C := Tryz.sortFunc_As asRow (fun _ => rfl) as_one cf G caps g off cap xs.toArray w eg hcmp hH hb (by simpa using hn) bitsLen_calls
 rw [List.size_toArray] at C
 refine C.mono ?_
 rintro e w' ⟨rfl, n, os, rfl⟩
 refine ⟨rfl, ?_, gb_sortK _ _ _ _ _ _ _ _⟩
 have hsz : (insertionSort (ltC cf) xs.toArray 0 xs.length).size = xs.toArray.size := by
  have := (insL_len cf xs); unfold insL at this; simpa using this
 have := rowsAt_sortK (n := n) (os := os) (enc := asRow) (d := xs.toArray) (d' := insertionSort (ltC cf) xs.toArray 0 xs.length) (w := w) (T := 78) (g := g) (off := off) (sz := 3) (by simpa using hv) (fun _ => rfl) hsz
 exact this
set_option maxRecDepth 100000 in
set_option maxHeartbeats 2000000 in
theorem insAs0_calls (G : Nat) (caps : Array Value) (w : World) : Calls Tryz.prog 205 #[.slice none 0 0, .int .i64 0, .int .i64 0, .func (.func G) #[] caps] w fun e w' => e = .returned (.tuple #[]) ∧ w = w' := by
 go_enter Tryz.func205, Tryz.ntmps205
 go_wp2_with fail
 refine wp_loop_rounds 1 ?_
 rw [rounds_succ]
 go_wp2_with fail
 go_end0
 exact ⟨rfl, rfl⟩
set_option maxRecDepth 100000 in
set_option maxHeartbeats 2000000 in
theorem pdqAs0_calls (l : Int) (G : Nat) (caps : Array Value) (w : World) : Calls Tryz.prog 186 #[.slice none 0 0, .int .i64 0, .int .i64 0, .int .i64 l, .func (.func G) #[] caps] w fun e w' => e = .returned (.tuple #[]) ∧ w = w' := by
 go_enter Tryz.func186, Tryz.ntmps186
 go_wp2_with fail
 refine wp_loop_rounds 1 ?_
 rw [rounds_succ]
 go_wp2_with fail
 refine (insAs0_calls G caps _).mono ?_
 rintro e w' ⟨rfl, rfl⟩
 go_wp2_with fail
 (try simp only [Exit.inBlock, Exit.then]); refine bodyPost_ret (results_none rfl _ _ _) rfl ?_
 exact ⟨rfl, rfl⟩
set_option maxRecDepth 100000 in
set_option maxHeartbeats 2000000 in
theorem sortAs0_calls (G : Nat) (caps : Array Value) (w : World) : Calls Tryz.prog 151 #[.slice none 0 0, .func (.func G) #[] caps] w fun e w' => e = .returned (.tuple #[]) ∧ w = w' := by
 have CB := Lib.hid (bitsLen_calls 0 w (by omega))
 go_enter Tryz.func151, Tryz.ntmps151
 go_wp2_with fail
 refine CB.out.mono ?_
 rintro e w' ⟨⟨l, rfl⟩, rfl⟩
 go_wp2_with fail
 refine (pdqAs0_calls l G caps _).mono ?_
 rintro e w' ⟨rfl, rfl⟩
 go_wp2_with fail
 go_end0
 exact ⟨rfl, rfl⟩
set_option maxRecDepth 100000 in
set_option maxHeartbeats 2000000 in
theorem stableAs_calls (cf : AsD → AsD → Int) (G : Nat) (caps : Array Value) (g off cap : Nat) (xs : List AsD) (w : World) (hv : RowsAt w 78 g off 3 (xs.map asRow)) (hn : xs.length ≤ 19) (eg : ∀ args w, (callFunc G args).run Tryz.prog w = .ok (.enter G args) w)
  (hG : ∀ (W : World) (x y : AsD), w.grownBy W (some g) → Calls Tryz.prog G (#[.agg #[.string x.player, .string x.pos, .int .i64 x.value], .agg #[.string y.player, .string y.pos, .int .i64 y.value]] ++ caps) W (CmpIs (cf x y) W)) :
  Calls Tryz.prog 187 #[.slice (some ⟨g, off, none⟩) xs.length cap, .int .i64 (xs.length : Int), .func (.func G) #[] caps] w (SortedAs cf g off xs w) := by
 have C := Lib.hid (insAs_calls cf G caps g off cap xs w hv (by omega) eg hG)
 unfold SortedAs at C ⊢
 generalize insL cf xs = ys at C ⊢
 clear hv hG eg
 generalize xs.length = n at hn C ⊢
 have e1 : decide (20 ≤ n) = false := by simp; omega
 have e2 : decide (20 < n) = false := by simp; omega
 go_enter Tryz.func187, Tryz.ntmps187
 go_wp2_with fail
 refine wp_loop_rounds 1 ?_
 rw [rounds_succ]
 go_wp2_with fail
 refine C.out.mono ?_
 rintro e w' ⟨rfl, h1, h2⟩
 have H := Lib.hid (And.intro h1 h2)
 clear h1 h2
 go_wp2_with fail
 refine wp_loop_rounds 1 ?_
 rw [rounds_succ]
 go_wp2_with fail
 go_end0
 exact ⟨rfl, H.out.1, H.out.2⟩
set_option maxRecDepth 100000 in
set_option maxHeartbeats 2000000 in
theorem sortStableAs_calls (cf : AsD → AsD → Int) (G : Nat) (caps : Array Value) (g off cap : Nat) (xs : List AsD) (w : World) (hv : RowsAt w 78 g off 3 (xs.map asRow)) (hn : xs.length ≤ 19) (eg : ∀ args w, (callFunc G args).run Tryz.prog w = .ok (.enter G args) w)
  (hG : ∀ (W : World) (x y : AsD), w.grownBy W (some g) → Calls Tryz.prog G (#[.agg #[.string x.player, .string x.pos, .int .i64 x.value], .agg #[.string y.player, .string y.pos, .int .i64 y.value]] ++ caps) W (CmpIs (cf x y) W)) :
  Calls Tryz.prog 155 #[.slice (some ⟨g, off, none⟩) xs.length cap, .func (.func G) #[] caps] w (SortedAs cf g off xs w) := by
 have C := Lib.hid (stableAs_calls cf G caps g off cap xs w hv hn eg hG)
 unfold SortedAs at C ⊢
 generalize insL cf xs = ys at C ⊢
 clear hv hG eg
 generalize xs.length = n at hn C ⊢
 go_enter Tryz.func155, Tryz.ntmps155
 go_wp2_with fail
 refine C.out.mono ?_
 rintro e w' ⟨rfl, h1, h2⟩
 have H := Lib.hid (And.intro h1 h2)
 clear h1 h2
 go_wp2_with fail
 go_end0
 exact ⟨rfl, H.out.1, H.out.2⟩
set_option maxRecDepth 100000 in
set_option maxHeartbeats 2000000 in
theorem stableAs0_calls (G : Nat) (caps : Array Value) (w : World) : Calls Tryz.prog 187 #[.slice none 0 0, .int .i64 0, .func (.func G) #[] caps] w fun e w' => e = .returned (.tuple #[]) ∧ w = w' := by
 go_enter Tryz.func187, Tryz.ntmps187
 go_wp2_with fail
 refine wp_loop_rounds 1 ?_
 rw [rounds_succ]
 go_wp2_with fail
 refine (insAs0_calls G caps w).mono ?_
 rintro e w' ⟨rfl, rfl⟩
 go_wp2_with fail
 refine wp_loop_rounds 1 ?_
 rw [rounds_succ]
 go_wp2_with fail
 go_end0
 exact ⟨rfl, rfl⟩
set_option maxRecDepth 100000 in
set_option maxHeartbeats 2000000 in
theorem sortStableAs0_calls (G : Nat) (caps : Array Value) (w : World) : Calls Tryz.prog 155 #[.slice none 0 0, .func (.func G) #[] caps] w fun e w' => e = .returned (.tuple #[]) ∧ w = w' := by
 go_enter Tryz.func155, Tryz.ntmps155
 go_wp2_with fail
 refine (stableAs0_calls G caps w).mono ?_
 rintro e w' ⟨rfl, rfl⟩
 go_wp2_with fail
 go_end0
 exact ⟨rfl, rfl⟩
end Go.Proofs.YtddnnjblpgfjeaaGreatDoor
namespace Go.Proofs.YtddnnjblpgfjeaaGreatDoor
open Go.RowKit

theorem then_first {a b : Int} : firstE [a, b] = if a = 0 then b else a := by
 unfold firstE firstE firstE
 split
 ·split
  ·rename_i h; exact h.symm
  ·rfl
 ·rfl
def o181_1 : Array Go.Oper := #[
 ⟨some 5, .fieldAddr 78 (.tmp 3) 2, 0, "value.go:54", #[], none⟩,
 ⟨some 6, .load 3 (.tmp 5), 3, "value.go:54", #[⟨0, .data⟩], none⟩,
 ⟨some 7, .fieldAddr 78 (.tmp 2) 2, 0, "value.go:54", #[], none⟩,
 ⟨some 8, .load 3 (.tmp 7), 3, "value.go:54", #[⟨2, .data⟩], none⟩,
 ⟨some 9, .call { callee := .value (.func 67), args := #[.tmp 6, .tmp 8], argTypes := #[3, 3] }, 3, "value.go:55", #[⟨1, .data⟩, ⟨3, .data⟩], none⟩,
 ⟨some 10, .fieldAddr 78 (.tmp 2) 0, 0, "value.go:54", #[], none⟩,
 ⟨some 11, .load 9 (.tmp 10), 9, "value.go:54", #[⟨5, .data⟩], none⟩,
 ⟨some 12, .fieldAddr 78 (.tmp 3) 0, 0, "value.go:54", #[], none⟩,
 ⟨some 13, .load 9 (.tmp 12), 9, "value.go:54", #[⟨7, .data⟩], none⟩,
 ⟨some 14, .call { callee := .value (.func 66), args := #[.tmp 11, .tmp 13], argTypes := #[9, 9] }, 3, "value.go:56", #[⟨6, .data⟩, ⟨8, .data⟩, ⟨4, .chain⟩], none⟩,
 ⟨some 15, .buildSlice 22 2 #[(0, .tmp 9), (1, .tmp 14)], 22, "value.go:54", #[⟨4, .data⟩, ⟨9, .data⟩], none⟩,
 ⟨some 16, .call { callee := .value (.func 65), args := #[.tmp 15], argTypes := #[22] }, 3, "value.go:54", #[⟨10, .data⟩, ⟨9, .chain⟩], none⟩,
 ⟨some 4, .assign (.tmp 16), 3, "value.go:54", #[⟨11, .data⟩, ⟨11, .chain⟩, ⟨0, .phase⟩, ⟨1, .phase⟩, ⟨2, .phase⟩, ⟨3, .phase⟩, ⟨4, .phase⟩, ⟨5, .phase⟩, ⟨6, .phase⟩, ⟨7, .phase⟩, ⟨8, .phase⟩, ⟨9, .phase⟩, ⟨10, .phase⟩, ⟨11, .phase⟩], none⟩]
theorem o181_1_0 : o181_1[0]? = some (⟨some 5, .fieldAddr 78 (.tmp 3) 2, 0, "value.go:54", #[], none⟩ : Go.Oper) := rfl
theorem o181_1_1 : o181_1[1]? = some (⟨some 6, .load 3 (.tmp 5), 3, "value.go:54", #[⟨0, .data⟩], none⟩ : Go.Oper) := rfl
theorem o181_1_2 : o181_1[2]? = some (⟨some 7, .fieldAddr 78 (.tmp 2) 2, 0, "value.go:54", #[], none⟩ : Go.Oper) := rfl
theorem o181_1_3 : o181_1[3]? = some (⟨some 8, .load 3 (.tmp 7), 3, "value.go:54", #[⟨2, .data⟩], none⟩ : Go.Oper) := rfl
theorem o181_1_4 : o181_1[4]? = some (⟨some 9, .call { callee := .value (.func 67), args := #[.tmp 6, .tmp 8], argTypes := #[3, 3] }, 3, "value.go:55", #[⟨1, .data⟩, ⟨3, .data⟩], none⟩ : Go.Oper) := rfl
theorem o181_1_5 : o181_1[5]? = some (⟨some 10, .fieldAddr 78 (.tmp 2) 0, 0, "value.go:54", #[], none⟩ : Go.Oper) := rfl
theorem o181_1_6 : o181_1[6]? = some (⟨some 11, .load 9 (.tmp 10), 9, "value.go:54", #[⟨5, .data⟩], none⟩ : Go.Oper) := rfl
theorem o181_1_7 : o181_1[7]? = some (⟨some 12, .fieldAddr 78 (.tmp 3) 0, 0, "value.go:54", #[], none⟩ : Go.Oper) := rfl
theorem o181_1_8 : o181_1[8]? = some (⟨some 13, .load 9 (.tmp 12), 9, "value.go:54", #[⟨7, .data⟩], none⟩ : Go.Oper) := rfl
theorem o181_1_9 : o181_1[9]? = some (⟨some 14, .call { callee := .value (.func 66), args := #[.tmp 11, .tmp 13], argTypes := #[9, 9] }, 3, "value.go:56", #[⟨6, .data⟩, ⟨8, .data⟩, ⟨4, .chain⟩], none⟩ : Go.Oper) := rfl
theorem o181_1_10 : o181_1[10]? = some (⟨some 15, .buildSlice 22 2 #[(0, .tmp 9), (1, .tmp 14)], 22, "value.go:54", #[⟨4, .data⟩, ⟨9, .data⟩], none⟩ : Go.Oper) := rfl
theorem o181_1_11 : o181_1[11]? = some (⟨some 16, .call { callee := .value (.func 65), args := #[.tmp 15], argTypes := #[22] }, 3, "value.go:54", #[⟨10, .data⟩, ⟨9, .chain⟩], none⟩ : Go.Oper) := rfl
theorem o181_1_12 : o181_1[12]? = some (⟨some 4, .assign (.tmp 16), 3, "value.go:54", #[⟨11, .data⟩, ⟨11, .chain⟩, ⟨0, .phase⟩, ⟨1, .phase⟩, ⟨2, .phase⟩, ⟨3, .phase⟩, ⟨4, .phase⟩, ⟨5, .phase⟩, ⟨6, .phase⟩, ⟨7, .phase⟩, ⟨8, .phase⟩, ⟨9, .phase⟩, ⟨10, .phase⟩, ⟨11, .phase⟩], none⟩ : Go.Oper) := rfl
theorem o181_1_ns : Go.Region.noSelect o181_1 = true := by kernel_rfl
set_option maxRecDepth 100000 in
set_option maxHeartbeats 4000000 in
theorem rankCmp_calls (x y : AsD) (w : World) : Calls Tryz.prog 181 #[.agg #[.string x.player, .string x.pos, .int .i64 x.value], .agg #[.string y.player, .string y.pos, .int .i64 y.value]] w (CmpIs (cmpRank x y) w) := by
 obtain ⟨W, hW⟩ : ∃ W, W = (w.alloc (.cells #[.string x.player, .string x.pos, .int .i64 x.value] 78)).alloc (.cells #[.string y.player, .string y.pos, .int .i64 y.value] 78) := ⟨_, rfl⟩
 have hG : Gro w W := by rw [hW]; exact ((Gro.refl w).alloc _).alloc _
 have hx : W.heap[w.heap.size]? = some (.cells #[.string x.player, .string x.pos, .int .i64 x.value] 78 (0, 0)) := by rw [hW]; exact heap_alG (heap_alloc_new w _) _
 have hy : W.heap[w.heap.size + 1]? = some (.cells #[.string y.player, .string y.pos, .int .i64 y.value] 78 (0, 0)) := by
  rw [hW]; have := heap_alloc_new (w.alloc (.cells #[.string x.player, .string x.pos, .int .i64 x.value] 78)) (.cells #[.string y.player, .string y.pos, .int .i64 y.value] 78); simpa using this
 have x0 := cell_at hx 0 rfl
 have x1 := cell_at hx 1 rfl
 have x2 := cell_at hx 2 rfl
 have y0 := cell_at hy 0 rfl
 have y1 := cell_at hy 1 rfl
 have y2 := cell_at hy 2 rfl
 have HR := Lib.hid (show cmpRank x y = firstE [Lib.compareInt y.value x.value, cmpS x.player y.player] by rw [then_first]; rfl)
 have HS := Lib.hid (show ∀ w', Gro w w' → Below W.heap.size W w' → (Gro w w' ∧ Below W.heap.size W w' ∧ w'.cell? ⟨w.heap.size, 0, none⟩ = some (.string x.player) ∧ w'.cell? ⟨w.heap.size, 1, none⟩ = some (.string x.pos) ∧ w'.cell? ⟨w.heap.size, 2, none⟩ = some (.int .i64 x.value) ∧ w'.cell? ⟨w.heap.size + 1, 0, none⟩ = some (.string y.player) ∧ w'.cell? ⟨w.heap.size + 1, 1, none⟩ = some (.string y.pos) ∧ w'.cell? ⟨w.heap.size + 1, 2, none⟩ = some (.int .i64 y.value)) from fun w' hg hb => ⟨hg, hb, below_cell hb x0, below_cell hb x1, below_cell hb x2, below_cell hb y0, below_cell hb y1, below_cell hb y2⟩)
 have hG0 := hG.drew
 have hb0 := (Below.refl W.heap.size W).drew
 clear x0 x1 x2 y0 y1 y2 hx hy
 go_enter Tryz.func181, Tryz.ntmps181
 go_upto_region 1 with fail
 rw [← hW]
 clear hW
 show Code.wp _ (Code.region 1 o181_1 true) _ _ _
 refine region_start 13 (fun w' => Gro w w' ∧ Below W.heap.size W w' ∧ w'.cell? ⟨w.heap.size, 0, none⟩ = some (.string x.player) ∧ w'.cell? ⟨w.heap.size, 1, none⟩ = some (.string x.pos) ∧ w'.cell? ⟨w.heap.size, 2, none⟩ = some (.int .i64 x.value) ∧ w'.cell? ⟨w.heap.size + 1, 0, none⟩ = some (.string y.player) ∧ w'.cell? ⟨w.heap.size + 1, 1, none⟩ = some (.string y.pos) ∧ w'.cell? ⟨w.heap.size + 1, 2, none⟩ = some (.int .i64 y.value)) (by kernel_rfl) rfl ?_ (fun hHeld => ?_)
 ·(exact HS.out _ (by first | exact hG0 | exact hHeld.1 | exact hHeld.1.alloc _) (by first | exact hb0 | exact hHeld.2.1 | exact below_step hHeld.2.1 (below_alloc _ _)))
 refine take_to 0 5 (bQ 13 1) (v := ?_) o181_1_0 rfl o181_1_ns (by kernel_rfl) (by kernel_rfl) (fun _ _ _ h => h) (by rfl) ?y0r (by assumption) ?_
 case y0r => intro w h; (try dsimp only at h); go_simp; try with_reducible rfl
 simp only [sE0, sE1]
 refine take_to 1 6 (bQ 13 3) (v := ?_) o181_1_1 rfl o181_1_ns (by kernel_rfl) (by kernel_rfl) (fun _ _ _ h => h) (by rfl) ?y1r (by assumption) ?_
 case y1r => intro w h; (try dsimp only at h); go_simp; try with_reducible rfl
 simp only [sE0, sE1]
 refine take_to 2 7 (bQ 13 7) (v := ?_) o181_1_2 rfl o181_1_ns (by kernel_rfl) (by kernel_rfl) (fun _ _ _ h => h) (by rfl) ?y2r (by assumption) ?_
 case y2r => intro w h; (try dsimp only at h); go_simp; try with_reducible rfl
 simp only [sE0, sE1]
 refine take_to 3 8 (bQ 13 15) (v := ?_) o181_1_3 rfl o181_1_ns (by kernel_rfl) (by kernel_rfl) (fun _ _ _ h => h) (by rfl) ?y3r (by assumption) ?_
 case y3r => intro w h; (try dsimp only at h); go_simp; try with_reducible rfl
 simp only [sE0, sE1]
 refine take_to 5 10 (bQ 13 47) (v := ?_) o181_1_5 rfl o181_1_ns (by kernel_rfl) (by kernel_rfl) (fun _ _ _ h => h) (by rfl) ?y5r (by assumption) ?_
 case y5r => intro w h; (try dsimp only at h); go_simp; try with_reducible rfl
 simp only [sE0, sE1]
 refine take_to 6 11 (bQ 13 111) (v := ?_) o181_1_6 rfl o181_1_ns (by kernel_rfl) (by kernel_rfl) (fun _ _ _ h => h) (by rfl) ?y6r (by assumption) ?_
 case y6r => intro w h; (try dsimp only at h); go_simp; try with_reducible rfl
 simp only [sE0, sE1]
 refine take_to 7 12 (bQ 13 239) (v := ?_) o181_1_7 rfl o181_1_ns (by kernel_rfl) (by kernel_rfl) (fun _ _ _ h => h) (by rfl) ?y7r (by assumption) ?_
 case y7r => intro w h; (try dsimp only at h); go_simp; try with_reducible rfl
 simp only [sE0, sE1]
 refine take_to 8 13 (bQ 13 495) (v := ?_) o181_1_8 rfl o181_1_ns (by kernel_rfl) (by kernel_rfl) (fun _ _ _ h => h) (by rfl) ?y8r (by assumption) ?_
 case y8r => intro w h; (try dsimp only at h); go_simp; try with_reducible rfl
 simp only [sE0, sE1]
 refine run_to 4 (bQ 13 511) o181_1_4 (by kernel_rfl) (by kernel_rfl) (by rfl) (fun K hK => ?_)
 go_simp
 refine (intCmp_calls _ _ _).mono ?_
 rintro e w' ⟨rfl, rfl⟩
 go_wp2_with fail
 refine hK.out _ _ ?_ (fun hHeld => ?_)
 ·(exact HS.out _ (by first | exact hG0 | exact hHeld.1 | exact hHeld.1.alloc _) (by first | exact hb0 | exact hHeld.2.1 | exact below_step hHeld.2.1 (below_alloc _ _)))
 clear hK K
 try simp only [Act.put, sEt, sE0, sE1]
 refine run_to 9 (bQ 13 1023) o181_1_9 (by kernel_rfl) (by kernel_rfl) (by rfl) (fun K hK => ?_)
 go_simp
 refine (strCmp_calls _ _ _).mono ?_
 rintro e w' ⟨rfl, rfl⟩
 go_wp2_with fail
 refine hK.out _ _ ?_ (fun hHeld => ?_)
 ·(exact HS.out _ (by first | exact hG0 | exact hHeld.1 | exact hHeld.1.alloc _) (by first | exact hb0 | exact hHeld.2.1 | exact below_step hHeld.2.1 (below_alloc _ _)))
 clear hK K
 try simp only [Act.put, sEt, sE0, sE1]
 refine run_to 10 (bQ 13 2047) o181_1_10 (by kernel_rfl) (by kernel_rfl) (by rfl) (fun K hK => ?_)
 go_simp
 refine hK.out _ _ ?_ (fun hHeld => ?_)
 ·(exact HS.out _ (by first | exact hG0 | exact hHeld.1 | exact hHeld.1.alloc _) (by first | exact hb0 | exact hHeld.2.1 | exact below_step hHeld.2.1 (below_alloc _ _)))
 clear hK K
 try simp only [Act.put, sEt, sE0, sE1]
 refine run_to 11 (bQ 13 4095) o181_1_11 (by kernel_rfl) (by kernel_rfl) (by rfl) (fun K hK => ?_)
 go_simp
 refine (orInt_calls _ 0 2 [Lib.compareInt y.value x.value, cmpS x.player y.player] _ (by simp) (by exact nums2 _ _ _ _)).mono ?_
 rintro e w' ⟨rfl, rfl⟩
 go_wp2_with fail
 refine hK.out _ _ ?_ (fun hHeld => ?_)
 ·(exact HS.out _ (by first | exact hG0 | exact hHeld.1 | exact hHeld.1.alloc _) (by first | exact hb0 | exact hHeld.2.1 | exact below_step hHeld.2.1 (below_alloc _ _)))
 clear hK K
 try simp only [Act.put, sEt, sE0, sE1]
 refine take_to 12 4 (bQ 13 8191) (v := ?_) o181_1_12 rfl o181_1_ns (by kernel_rfl) (by kernel_rfl) (fun _ _ _ h => h) (by rfl) ?y12r (by assumption) ?_
 case y12r => intro w h; (try dsimp only at h); go_simp; try with_reducible rfl
 simp only [sE0, sE1]
 refine wpAnyH_done (by kernel_rfl) ?_ _
 go_wp2_with fail
 go_ret
 exact ⟨ret_int HR.out.symm, hHeld.1⟩
set_option maxRecDepth 100000 in
set_option maxHeartbeats 1000000 in
theorem downCmp_calls (x y : AsD) (w : World) : Calls Tryz.prog 156 #[.agg #[.string x.player, .string x.pos, .int .i64 x.value], .agg #[.string y.player, .string y.pos, .int .i64 y.value]] w (CmpIs (cmpDown x y) w) := by
 unfold cmpDown
 go_enter Tryz.func156, Tryz.ntmps156
 go_wp2_with fail
 refine (intCmp_calls _ _ _).mono ?_
 rintro e w' ⟨rfl, rfl⟩
 go_wp2_with fail
 go_ret
 exact ⟨rfl, ((Gro.refl w).alloc _).alloc _⟩
/-- Assets in memory of the call's own: they may be written. -/
def FreshAs (lo : Nat) (xs : List AsD) (w : World) (v : Value) : Prop := (v = .slice none 0 0 ∧ xs = []) ∨ ∃ g off c, v = .slice (some ⟨g, off, none⟩) xs.length c ∧ RowsAt w 78 g off 3 (xs.map asRow) ∧ xs.length ≤ c ∧ lo ≤ g
theorem FreshAs.ass {lo : Nat} {xs : List AsD} {w : World} {v : Value} (h : FreshAs lo xs w v) (hn : xs.length ≤ 1000000) : Ass w lo v xs := by
 rcases h with ⟨rfl, rfl⟩ | ⟨g, off, c, rfl, hr, hc, hl⟩
 ·exact ⟨by simp, by simp, .inl ⟨rfl, rfl⟩⟩
 ·have := hr.rows (lo := lo) (cap := c) (by simpa using hn) hl (by simpa using hc)
  simpa [Ass] using this
theorem FreshAs.below {lo : Nat} {xs : List AsD} {w w' : World} {v : Value} (h : FreshAs lo xs w v) (hb : Below w.heap.size w w') : FreshAs lo xs w' v := by
 rcases h with h | ⟨g, off, c, e, hr, hc, hl⟩
 ·exact .inl h
 ·exact .inr ⟨g, off, c, e, hr.below hb, hc, hl⟩
theorem fresh_own {lo : Nat} {xs : List AsD} {w : World} {v : Value} (h : OwnAs w lo v xs) : FreshAs lo xs w v := by
 rcases h.2 with ⟨e, h0⟩ | ⟨g, cap, cur, e, hb, hg, hle, _⟩
 ·exact .inl ⟨e, List.eq_nil_of_length_eq_zero h0⟩
 ·subst e
  obtain ⟨hat, _⟩ := RowsAt.of_owns (sz := 3) (rows := xs.map asRow) (by simpa [OwnAs] using h) (as_each xs)
  exact .inr ⟨g, 0, cap, rfl, hat, hle, hb⟩
/-- What hands back assets of its own. -/
def MadeAs (xs : List AsD) (w : World) (e : Ending) (w' : World) : Prop := ∃ v, FreshAs w.heap.size xs w' v ∧ e = .returned v ∧ Below w.heap.size w w'
theorem below_gbG {w a b : World} {g : Nat} (h : Below w.heap.size w a) (k : a.grownBy b (some g)) (hg : w.heap.size ≤ g) : Below w.heap.size w b :=
 h.grown k h.size fun r hr => by cases hr; exact hg
set_option maxRecDepth 100000 in
set_option maxHeartbeats 2000000 in
theorem ranked_calls (lo : Nat) (v : Value) (xs : List AsD) (w : World) (hv : Ass w lo v xs) (hn : xs.length ≤ 12) :
  Calls Tryz.prog 140 #[v] w (MadeAs (rank xs) w) := by
 have C := Lib.hid (cloneAs_calls lo v xs w hv)
 obtain ⟨a, c, rfl⟩ := as_shape hv
 clear hv
 go_enter Tryz.func140, Tryz.ntmps140
 go_wp2_with fail
 refine C.out.mono ?_
 rintro e w1 ⟨v1, hown, rfl, hb1⟩
 rcases fresh_own hown with ⟨rfl, rfl⟩ | ⟨g, off, c1, rfl, hr, hc, hl⟩
 ·clear C hown
  go_wp2_with fail
  refine (sortAs0_calls _ _ _).mono ?_; rintro e w2 ⟨rfl, rfl⟩; go_wp2_with fail
  go_ret
  exact ⟨_, .inl ⟨rfl, List.eq_nil_of_length_eq_zero (insL_len cmpRank [])⟩, rfl, hb1⟩
 ·have D := Lib.hid (sortAs_calls cmpRank 181 #[] g off c1 xs w1 hr hn (enters_of Tryz.func181 (by kernel_rfl) rfl) fun W x y _ => rankCmp_calls x y W)
  have HL := Lib.hid (insL_len cmpRank xs); clear C hown hr; go_wp2_with fail
  refine D.out.mono ?_; rintro e w2 ⟨rfl, hr2, hg2⟩; clear D; go_wp2_with fail
  go_ret
  refine ⟨_, .inr ⟨g, off, c1, by unfold rank; rw [HL.out]; rfl, hr2, by unfold rank; rw [HL.out]; exact hc, hl⟩, rfl, below_gbG hb1 hg2 hl⟩
set_option maxRecDepth 100000 in
set_option maxHeartbeats 1000000 in
theorem of1_calls (X : Nat) (x : AsD) (k : ByteArray) (w : World) (hX : w.cell? ⟨X, 0, none⟩ = some (.string k)) :
  Calls Tryz.prog 154 #[.agg #[.string x.player, .string x.pos, .int .i64 x.value], .pointer (some ⟨X, 0, none⟩)] w (BoolIs (!beqS x.pos k) w) := by
 have hX1 := below_cell (below_alloc w (.cells #[.string x.player, .string x.pos, .int .i64 x.value] 78)) hX
 clear hX
 cases hk : beqS x.pos k
 ·have e1 : (x.pos.toList == k.toList) = false := hk
  have e2 : (x.pos.toList != k.toList) = true := by rw [bne, e1]; rfl
  clear hk; go_enter Tryz.func154, Tryz.ntmps154; go_wp2_with fail
  go_ret
  exact ⟨rfl, below_alloc w _⟩
 ·have e1 : (x.pos.toList == k.toList) = true := hk
  have e2 : (x.pos.toList != k.toList) = false := by rw [bne, e1]; rfl
  clear hk; go_enter Tryz.func154, Tryz.ntmps154; go_wp2_with fail
  go_ret
  exact ⟨rfl, below_alloc w _⟩
theorem ofR_ins {xs : List AsD} (h : RiseA xs) (k : ByteArray) : insL cmpDown (xs.filter fun x => beqS x.pos k) = ofR xs k := by
 unfold ofR
 exact down_rank (h.sublist List.filter_sublist)
set_option maxRecDepth 100000 in
set_option maxHeartbeats 2000000 in
theorem ofA_calls (lo : Nat) (v : Value) (xs : List AsD) (k : ByteArray) (w : World) (hv : Ass w lo v xs) (hr : RiseA xs) (hn : xs.length ≤ 12) :
  Calls Tryz.prog 116 #[v, .string k] w (MadeAs (ofR xs k) w) := by
 obtain ⟨W, hW⟩ : ∃ W, W = w.alloc (.cells #[.string k] 9) := ⟨_, rfl⟩
 have hwW : Below w.heap.size w W := by rw [hW]; exact below_alloc w _
 have x0 : W.cell? ⟨w.heap.size, 0, none⟩ = some (.string k) := by rw [hW, World.cell?_alloc_at _ _ _ _ rfl]; rfl
 have hWs : W.heap.size = w.heap.size + 1 := by rw [hW]; simp
 have C := Lib.hid (cloneAs_calls lo v xs W (hv.below hwW))
 have HO := Lib.hid (ofR_ins hr k)
 have HF := Lib.hid (show (xs.filter fun x => !(!beqS x.pos k)) = xs.filter fun x => beqS x.pos k by simp)
 have HFl := Lib.hid (show (xs.filter fun x => beqS x.pos k).length ≤ 12 from Nat.le_trans (List.length_filter_le _ _) hn)
 obtain ⟨a, c, rfl⟩ := as_shape hv
 generalize ofR xs k = R at HO ⊢
 have HX := Lib.hid x0
 have HWs := Lib.hid hWs
 have HwW := Lib.hid hwW
 clear hv hr x0 hWs hwW
 go_enter Tryz.func116, Tryz.ntmps116
 go_upto_region 1 with fail
 rw [← hW]
 clear hW
 go_wp2_with fail
 refine C.out.mono ?_
 rintro e w1 ⟨v1, hown, rfl, hb1⟩
 have hb01 := below_step HwW.out hb1
 rcases fresh_own hown with ⟨rfl, rfl⟩ | ⟨g, off, c1, rfl, hr1, hc, hl⟩
 ·have HR : R = [] := by rw [← HO.out]; exact List.eq_nil_of_length_eq_zero (insL_len cmpDown [])
  subst HR; have D := Lib.hid (deleteAs0_calls 154 #[.pointer (some ⟨w.heap.size, 0, none⟩)] (fun x => !beqS x.pos k) w1 (enters_of Tryz.func154 (by kernel_rfl) rfl) fun W2 x hb => of1_calls _ x k W2 (below_cell hb (below_cell hb1 HX.out)))
  clear C hown hb1 HO HF HFl HX HWs HwW; go_wp2_with fail
  refine D.out.mono ?_; rintro e w2 ⟨rfl, hb2⟩; have hb02 := below_step hb01 hb2; clear D hb2 hb01; go_wp2_with fail
  refine (sortStableAs0_calls _ _ _).mono ?_; rintro e w3 ⟨rfl, rfl⟩; go_wp2_with fail
  go_ret
  exact ⟨_, .inl ⟨rfl, rfl⟩, rfl, hb02⟩
 ·have hlw : w.heap.size ≤ g := by have := HWs.out; omega
  have D := Lib.hid (deleteAs_calls 154 #[.pointer (some ⟨w.heap.size, 0, none⟩)] (fun x => !beqS x.pos k) 0 g off c1 xs w1 hr1 (by omega) hc (Nat.zero_le _) (enters_of Tryz.func154 (by kernel_rfl) rfl) fun W2 x hg => of1_calls _ x k W2 (gb_cell hg (below_cell hb1 HX.out) (by have := HWs.out; omega)))
  unfold LeftAs at D
  rw [HF.out] at D
  generalize (xs.filter fun x => beqS x.pos k) = ys at D HO HFl
  clear C hown hr1 HF; go_wp2_with fail
  refine D.out.mono ?_; rintro e w2 ⟨c2, rfl, hr2, hc2, hg2⟩; have hb02 := below_gbG hb01 hg2 hlw; have E := Lib.hid (sortStableAs_calls cmpDown 156 #[] g off c2 ys w2 hr2 (by have := HFl.out; omega) (enters_of Tryz.func156 (by kernel_rfl) rfl) fun W x y _ => downCmp_calls x y W)
  have HL := Lib.hid (insL_len cmpDown ys); unfold SortedAs at E
  rw [HO.out] at E HL
  clear D hr2 hg2 HO hb1 hb01; go_wp2_with fail
  refine E.out.mono ?_; rintro e w3 ⟨rfl, hr3, hg3⟩; have hb03 := below_gbG hb02 hg3 hlw; clear E hb02; go_wp2_with fail
  go_ret
  exact ⟨_, .inr ⟨g, off, c2, by rw [HL.out]; rfl, hr3, by rw [HL.out]; exact hc2, hlw⟩, rfl, hb03⟩
end Go.Proofs.YtddnnjblpgfjeaaGreatDoor
