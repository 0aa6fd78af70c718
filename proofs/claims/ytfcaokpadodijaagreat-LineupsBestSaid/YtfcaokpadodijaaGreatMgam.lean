/- Fills in memory; who is in a slot. -/
import Derived.Test.YtfcaokpadodijaaGreatMgal
import Derived.Laws.ResultCell
import Derived.OwnWalk
import Derived.Test.YtfcaokpadodijaaGreatMgaj
import Derived.Test.YtfcaokpadodijaaGreatMgaa
import Derived.Test.YtfcaokpadodijaaGreatMgac
import Derived.Test.YtfcaokpadodijaaGreatMgab
import Derived.IntWalk
import Derived.Test.YtfcaokpadodijaaGreatMgah
/- Fractions: the greatest common divisor, lowest terms, hundredths, on both sides. -/
namespace Go.Proofs.YtfcaokpadodijaaGreat
open Go.RowKit

/-- The greatest common divisor. -/
def gcdI (a b : Int) : Int := (Nat.gcd a.natAbs b.natAbs : Nat)
theorem gcdI_pos {a b : Int} (h : 0 < b) : 0 < gcdI a b := by
 unfold gcdI
 have : 0 < Nat.gcd a.natAbs b.natAbs := Nat.gcd_pos_of_pos_right _ (by omega)
 omega
theorem gcdI_le {a b : Int} (h : 0 < b) : gcdI a b ≤ b := by
 unfold gcdI
 have := Nat.gcd_le_right (n := b.natAbs) a.natAbs (by omega)
 omega
theorem gcdI_comm (a b : Int) : gcdI a b = gcdI b a := by unfold gcdI; rw [Nat.gcd_comm]
theorem gcdI_step (a b : Int) : gcdI (b.tmod a) a = gcdI a b := by
 unfold gcdI
 rw [Int.natAbs_tmod, ← Nat.gcd_rec]
theorem gcdI_zero (b : Int) : gcdI 0 b = (b.natAbs : Int) := by unfold gcdI; simp
def Int64 (x : Int) : Prop := -9223372036854775808 ≤ x ∧ x ≤ 9223372036854775807
theorem tmod_small (a b : Int) (ha : a ≠ 0) : (b.tmod a).natAbs < a.natAbs := by
 rw [Int.natAbs_tmod]
 exact Nat.mod_lt _ (by omega)
theorem tmod_64 {a b : Int} (ha : a ≠ 0) (h : Int64 a) : Int64 (b.tmod a) := by
 have := tmod_small a b ha
 unfold Int64 at *
 omega

set_option maxRecDepth 100000 in
set_option maxHeartbeats 1000000 in
theorem divisor_calls (n above : Int) (w : World) (hn : Int64 n) (ha : Int64 above) (h0 : 0 < above) :
  Calls Tryz.prog 115 #[.int .i64 n, .int .i64 above] w fun e w' => e = .returned (.int .i64 (gcdI n above)) ∧ w = w' := by
 have HG := Lib.hid (gcdI_le (a := n) h0)
 have hG := Lib.hid (⟨gcdI n above, rfl⟩ : ∃ G, G = gcdI n above)
 obtain ⟨G, hG⟩ := hG.out
 rw [← hG] at HG ⊢
 have H1 := Lib.hid hG
 have Hn := Lib.hid hn
 have Ha := Lib.hid ha
 clear hG hn ha h0
 go_enter Tryz.func115, Tryz.ntmps115
 go_wp2_with fail
 go_loop [0, 1] (fun t s => ∃ a b : Int, t = .int .i64 a ∧ s = .int .i64 b ∧ Hid (Int64 a ∧ Int64 b ∧ gcdI a b = G)) (fun t _ => (intOf t).natAbs)
 case atStart => exact ⟨n, above, rfl, rfl, Lib.hid ⟨Hn.out, Ha.out, H1.out.symm⟩⟩
 case round =>
  obtain ⟨a, b, rfl, rfl, H⟩ := hrel; by_cases hz : a = 0
  ·subst hz
   have hb : (b.natAbs : Int) = G := by rw [← H.out.2.2, gcdI_zero]
   have hr := Ha.out; have hG := HG.out; unfold Int64 at hr
   have hm : max b (-b) = G := by omega
   have Hm := Lib.hid hm; clear hm; go_wp2_with fail
   go_ret
   exact ⟨ret_int Hm.out, rfl⟩
  ·have hne : (a != 0) = true := by simp [hz]
   have hr := tmod_64 (b := b) hz H.out.1; have Hs := Lib.hid (tmod_small a b hz); unfold Int64 at hr
   obtain ⟨hr1, hr2⟩ := hr; have Hz := Lib.hid hz; clear hz; go_wp2_with fail
   go_round
   case rel => exact ⟨_, _, rfl, rfl, Lib.hid ⟨tmod_64 Hz.out H.out.1, H.out.1, (gcdI_step a b).trans H.out.2.2⟩⟩
   case measure => simp only [intOf]; exact Hs.out

theorem results_cell1 {fn : Func} {p : Tmp} {ty : TypeId} (h : fn.results = #[.cell p ty]) (tmps : Array Value) (P : Program) (w : World) :
  (results fn tmps).run P w = ((asAddr (tmps.getD p undef)).run P w).andThen fun a w₁ => (loadVar ty a).run P w₁ := by
 simp only [results, h]
 simp [Sem.run_bind, Result.andThen]
theorem cells_later {w w' : World} {T g : Nat} {cur : Array Value} (h : w.heap[g]? = some (.cells cur T (0, 0))) (hb : Below w.heap.size w w') : w'.heap[g]? = some (.cells cur T (0, 0)) := (hb.block _ (lt_of_heap h)).trans h
theorem free_of {w : World} {T g : Nat} {cur : Array Value} (h : w.heap[g]? = some (.cells cur T (0, 0))) (o : Nat) : w.frozen? ⟨g, o, none⟩ = false := by simp [World.frozen?, h]
theorem cell_at {w : World} {T g : Nat} {cur : Array Value} {u : Value} (h : w.heap[g]? = some (.cells cur T (0, 0))) (o : Nat) (hu : cur[o]? = some u) : w.cell? ⟨g, o, none⟩ = some u := by rw [cell_of_row w g o cur T (0, 0) h, hu]
/-- A fraction's value. -/
def frV (f : Int × Int) : Value := .agg #[.int .i64 f.1, .int .i64 f.2]
def lowF (n d : Int) : Int × Int := (n.tdiv (gcdI n d), d.tdiv (gcdI n d))
theorem tdiv_64 {n g : Int} (hn : Int64 n) (hg : 0 < g) : Int64 (n.tdiv g) := by
 have h := Int.natAbs_tdiv n g
 have h1 : n.natAbs / g.natAbs ≤ n.natAbs := Nat.div_le_self _ _
 have h2 : (n.tdiv g).natAbs ≤ n.natAbs := by rw [h]; exact h1
 have h3 : 0 ≤ n → 0 ≤ n.tdiv g := fun h => Int.tdiv_nonneg h (by omega)
 have h4 : n ≤ 0 → n.tdiv g ≤ 0 := fun h => by
  have := Int.tdiv_nonneg (show 0 ≤ -n by omega) (show 0 ≤ g by omega)
  rw [Int.neg_tdiv] at this
  omega
 clear h h1
 unfold Int64 at *
 omega

set_option maxRecDepth 100000 in
set_option maxHeartbeats 1000000 in
theorem of_calls (n d : Int) (w : World) (hn : Int64 n) (hd : Int64 d) (h0 : 0 < d) :
  Calls Tryz.prog 95 #[.int .i64 n, .int .i64 d] w fun e w' => e = .returned (frV (lowF n d)) ∧ Below w.heap.size w w' := by
 have hG := gcdI_pos (a := n) h0
 have hg1 := tdiv_64 hn hG
 have hg2 := tdiv_64 hd hG
 have H := Lib.hid (show frV (lowF n d) = .agg #[.int .i64 (n.tdiv (gcdI n d)), .int .i64 (d.tdiv (gcdI n d))] from rfl)
 have C := fun w => Lib.hid (divisor_calls n d w hn hd h0)
 generalize gcdI n d = G at *
 generalize lowF n d = L at *
 unfold Int64 at *
 have hne : G ≠ 0 := by omega
 go_enter Tryz.func95, Tryz.ntmps95
 go_wp2_with fail
 refine (C _).out.mono ?_
 rintro e w' ⟨rfl, rfl⟩
 go_wp2_with fail
 go_region
 go_wp2_with fail
 try simp only [Exit.inBlock, Exit.then]
 refine bodyPost_ret (v := .agg #[.int .i64 (n.tdiv G), .int .i64 (d.tdiv G)]) ?_ rfl ⟨ret_val H.out.symm, ((Below.refl w.heap.size w).alloc (Nat.le_refl _) _).drew⟩
 rw [results_cell1 rfl]
 go_simp
set_option maxHeartbeats 400000 in
theorem ofHundredths_calls (n : Int) (w : World) (hn : Int64 n) :
  Calls Tryz.prog 50 #[.int .i64 n] w fun e w' => e = .returned (frV (lowF n 100)) ∧ Below w.heap.size w w' := by
 have hb0 := below_alloc w (.cells #[.int .i64 0, .int .i64 0] 34)
 go_enter Tryz.func50, Tryz.ntmps50
 go_wp2_with fail
 refine (of_calls n 100 _ hn (by unfold Int64; omega) (by omega)).mono ?_
 rintro e w' ⟨rfl, hb⟩
 rw [show frV (lowF n 100) = .agg #[.int .i64 (lowF n 100).1, .int .i64 (lowF n 100).2] from rfl]
 have hx := cells_later (heap_alloc_new w _) hb
 have z0 := cell_at hx 0 rfl
 have z1 := cell_at hx 1 rfl
 have f0 := free_of hx 0
 have f1 := free_of hx 1
 have Hb := Lib.hid (below_step hb0 hb)
 clear hx hb hb0
 obtain ⟨L, hL⟩ : ∃ L, L = lowF n 100 := ⟨_, rfl⟩
 have HL := Lib.hid (show Ending.returned (.agg #[.int .i64 L.1, .int .i64 L.2]) = Ending.returned (frV (lowF n 100)) by rw [hL]; rfl)
 rw [← hL]
 clear hL
 go_wp2_with fail
 try simp only [Exit.inBlock, Exit.then]
 refine bodyPost_ret (v := .agg #[.int .i64 L.1, .int .i64 L.2]) ?_ rfl ⟨HL.out, (Hb.out.setCell (p := ⟨w.heap.size, 0, none⟩) (Nat.le_refl _) _).setCell (p := ⟨w.heap.size, 1, none⟩) (Nat.le_refl _) _⟩
 rw [results_cell1 rfl]
 go_simp
set_option maxHeartbeats 400000 in
theorem hundredths_calls (n d : Int) (w : World) (hd : 0 < d) (h1 : Int64 (n * ((100 : Int).tdiv d))) (h2 : d ≤ 100):
  Calls Tryz.prog 96 #[frV (n, d)] w fun e w' => e = .returned (.int .i64 (n * ((100 : Int).tdiv d))) ∧ Below w.heap.size w w' := by
 unfold frV Int64 at *
 have hd0 : d ≠ 0 := by omega
 have h3 := tdiv_64 (show Int64 100 by unfold Int64; omega) hd
 unfold Int64 at h3
 go_enter Tryz.func96, Tryz.ntmps96
 go_wp2_with fail
 go_quiet (fail)
 go_wp2_with fail
 go_ret
 exact ⟨rfl, below_drewN (below_alloc w _) nq⟩

/-- What is wrong with points. -/
def wrongF (n d most : Int) : Int := if d ≤ 0 ∨ gcdI n d ≠ 1 then 3 else if (100 : Int) % d ≠ 0 ∨ ¬ (-most * d ≤ n ∧ n ≤ most * d) then 1 else 0
theorem den_100 {d : Int} (h : (100 : Int) % d = 0) : d ≤ 100 := Int.le_of_dvd (by omega) (Int.dvd_of_emod_eq_zero h)
set_option maxRecDepth 100000 in
set_option maxHeartbeats 1000000 in
theorem wrong_calls (n d : Int) (w : World) (hn : Int64 n) (hd : Int64 d) :
  Calls Tryz.prog 74 #[frV (n, d), .int .i64 10000] w fun e w' => e = .returned (.int .i64 (wrongF n d 10000)) ∧ Below w.heap.size w w' := by
 have hb := below_alloc w (.cells #[.int .i64 n, .int .i64 d] 34)
 unfold frV
 by_cases h0 : d ≤ 0
 ·have HW := Lib.hid (show wrongF n d 10000 = 3 by unfold wrongF; rw [if_pos (Or.inl h0)])
  go_enter Tryz.func74, Tryz.ntmps74; go_wp2_with fail
  go_ret
  exact ⟨ret_int HW.out.symm, hb⟩
 ·have C := fun w => Lib.hid (divisor_calls n d w hn hd (by omega))
  by_cases h1 : gcdI n d = 1
  ·by_cases h2 : (100 : Int) % d = 0
   ·have h3 := den_100 h2
    by_cases h4 : -10000 * d ≤ n ∧ n ≤ 10000 * d
    ·have HW := Lib.hid (show wrongF n d 10000 = 0 by unfold wrongF; rw [if_neg (by omega), if_neg (by omega)])
     have H4 := Lib.hid (show betwB n (-10000 * d) (10000 * d) = true by unfold betwB; simp; omega)
     rw [h1] at C
     clear h4 hn hd h1; go_enter Tryz.func74, Tryz.ntmps74; go_wp2_with fail
     refine (C _).out.mono ?_; rintro e w' ⟨rfl, rfl⟩; go_wp2_with fail
     refine (between_calls n (-10000 * d) (10000 * d) _).mono ?_; rintro e w' ⟨rfl, rfl⟩; rw [H4.out]; go_wp2_with fail
     go_ret
     exact ⟨ret_int HW.out.symm, hb⟩
    ·have HW := Lib.hid (show wrongF n d 10000 = 1 by unfold wrongF; rw [if_neg (by omega), if_pos (by omega)])
     have H4 := Lib.hid (show betwB n (-10000 * d) (10000 * d) = false by unfold betwB; simp; omega)
     rw [h1] at C
     clear h4 hn hd h1; go_enter Tryz.func74, Tryz.ntmps74; go_wp2_with fail
     refine (C _).out.mono ?_; rintro e w' ⟨rfl, rfl⟩; go_wp2_with fail
     refine (between_calls n (-10000 * d) (10000 * d) _).mono ?_; rintro e w' ⟨rfl, rfl⟩; rw [H4.out]; go_wp2_with fail
     go_ret
     exact ⟨ret_int HW.out.symm, hb⟩
   ·have HW := Lib.hid (show wrongF n d 10000 = 1 by unfold wrongF; rw [if_neg (by omega), if_pos (by omega)])
    have h5 : ((100 : Int) % d != 0) = true := by simpa using h2
    have hr1 := Int.emod_nonneg 100 (show d ≠ 0 by omega)
    have hr2 := Int.emod_lt_of_pos 100 (show 0 < d by omega)
    have h6 : d ≠ 0 := by omega
    rw [h1] at C
    clear h2 hn hd h1; go_enter Tryz.func74, Tryz.ntmps74; go_wp2_with fail
    refine (C _).out.mono ?_; rintro e w' ⟨rfl, rfl⟩; go_wp2_with fail
    go_ret
    exact ⟨ret_int HW.out.symm, hb⟩
  ·have HW := Lib.hid (show wrongF n d 10000 = 3 by unfold wrongF; rw [if_pos (Or.inr h1)])
   have h5 : (gcdI n d != 1) = true := by simpa using h1
   clear h1 hn hd; generalize gcdI n d = G at C h5
   go_enter Tryz.func74, Tryz.ntmps74; go_wp2_with fail
   refine (C _).out.mono ?_; rintro e w' ⟨rfl, rfl⟩; go_wp2_with fail
   go_ret
   exact ⟨ret_int HW.out.symm, hb⟩
end Go.Proofs.YtfcaokpadodijaaGreat
/- Fractions on the reference's side. -/
namespace Go.Proofs.YtfcaokpadodijaaGreat
open Go.RowKit

theorem gcdI_step' (a b : Int) : gcdI b (a.tmod b) = gcdI a b := by rw [gcdI_comm, gcdI_step, gcdI_comm]
set_option maxRecDepth 100000 in
set_option maxHeartbeats 1000000 in
theorem divisorR_calls (n d : Int) (w : World) (hn : Int64 n) (ha : Int64 d) (h0 : 0 < d) :
  Calls Tryz.prog 107 #[.int .i64 n, .int .i64 d] w fun e w' => e = .returned (.int .i64 (gcdI n d)) ∧ Below w.heap.size w w' := by
 have HG := Lib.hid (gcdI_le (a := n) h0)
 have hG := Lib.hid (⟨gcdI n d, rfl⟩ : ∃ G, G = gcdI n d)
 obtain ⟨G, hG⟩ := hG.out
 rw [← hG] at HG ⊢
 have H1 := Lib.hid hG
 have Hn := Lib.hid hn
 have Ha := Lib.hid ha
 clear hG hn ha h0
 go_enter Tryz.func107, Tryz.ntmps107
 go_wp2_with fail
 go_loopw [0, 1] (fun t s wr => ∃ a b : Int, t = .int .i64 a ∧ s = .int .i64 b ∧ Hid (Int64 a ∧ Int64 b ∧ gcdI a b = G) ∧ Below w.heap.size w wr) (fun _ s _ => (intOf s).natAbs)
 case atStart => exact ⟨n, d, rfl, rfl, Lib.hid ⟨Hn.out, Ha.out, H1.out.symm⟩, Below.refl _ _⟩
 case round =>
  obtain ⟨a, b, rfl, rfl, H, hb⟩ := hrel; by_cases hz : b = 0
  ·subst hz
   have hb' : (a.natAbs : Int) = G := by rw [← H.out.2.2, gcdI_comm, gcdI_zero]
   have hr := Ha.out; have hG := HG.out; unfold Int64 at hr
   have hm : max a (-a) = G := by omega
   have Hm := Lib.hid hm; clear hm; go_wp2_with fail
   go_ret
   exact ⟨ret_int Hm.out, hb⟩
  ·have hne : (b != 0) = true := by simp [hz]
   have hr := tmod_64 (b := a) hz H.out.2.1; have Hs := Lib.hid (tmod_small b a hz); unfold Int64 at hr
   obtain ⟨hr1, hr2⟩ := hr; have Hz := Lib.hid hz; go_wp2_with fail
   go_region
   go_wp2_with fail
   go_roundw
   case rel => exact ⟨_, _, rfl, rfl, Lib.hid ⟨H.out.2.1, tmod_64 Hz.out H.out.2.1, (gcdI_step' a b).trans H.out.2.2⟩, hb.drew⟩
   case measure => simp only [intOf]; exact Hs.out

set_option maxRecDepth 100000 in
set_option maxHeartbeats 1000000 in
theorem lowest_calls (n d : Int) (w : World) (hn : Int64 n) (hd : Int64 d) (h0 : 0 < d) :
  Calls Tryz.prog 63 #[.int .i64 n, .int .i64 d] w fun e w' => e = .returned (frV (lowF n d)) ∧ Below w.heap.size w w' := by
 have hG := gcdI_pos (a := n) h0
 have hg1 := tdiv_64 hn hG
 have hg2 := tdiv_64 hd hG
 have H := Lib.hid (show frV (lowF n d) = .agg #[.int .i64 (n.tdiv (gcdI n d)), .int .i64 (d.tdiv (gcdI n d))] from rfl)
 have C := fun w => Lib.hid (divisorR_calls n d w hn hd h0)
 generalize gcdI n d = G at hG hg1 hg2 H C
 generalize lowF n d = L at H ⊢
 unfold Int64 at *
 have hne : G ≠ 0 := by omega
 have hb0 := below_alloc w (.cells #[.int .i64 0, .int .i64 0] 34)
 go_enter Tryz.func63, Tryz.ntmps63
 go_wp2_with fail
 refine (C _).out.mono ?_
 rintro e w' ⟨rfl, hb⟩
 have hx := cells_later (heap_alloc_new w _) hb
 have z0 := cell_at hx 0 rfl
 have z1 := cell_at hx 1 rfl
 have f0 := free_of hx 0
 have f1 := free_of hx 1
 have Hb := Lib.hid (below_step hb0 hb)
 clear hx hb hb0 C
 go_wp2_with fail
 go_region
 go_wp2_with fail
 try simp only [Exit.inBlock, Exit.then]
 refine bodyPost_ret (v := .agg #[.int .i64 (n.tdiv G), .int .i64 (d.tdiv G)]) ?_ rfl ⟨ret_val H.out.symm, ((Hb.out.drew).setCell (p := ⟨w.heap.size, 0, none⟩) (Nat.le_refl _) _).setCell (p := ⟨w.heap.size, 1, none⟩) (Nat.le_refl _) _⟩
 rw [results_cell1 rfl]
 go_simp
set_option maxHeartbeats 400000 in
theorem ofHundredthsR_calls (n : Int) (w : World) (hn : Int64 n) :
  Calls Tryz.prog 19 #[.int .i64 n] w fun e w' => e = .returned (frV (lowF n 100)) ∧ Below w.heap.size w w' := by
 have hb0 := below_alloc w (.cells #[.int .i64 0, .int .i64 0] 34)
 go_enter Tryz.func19, Tryz.ntmps19
 go_wp2_with fail
 refine (lowest_calls n 100 _ hn (by unfold Int64; omega) (by omega)).mono ?_
 rintro e w' ⟨rfl, hb⟩
 rw [show frV (lowF n 100) = .agg #[.int .i64 (lowF n 100).1, .int .i64 (lowF n 100).2] from rfl]
 have hx := cells_later (heap_alloc_new w _) hb
 have z0 := cell_at hx 0 rfl
 have z1 := cell_at hx 1 rfl
 have f0 := free_of hx 0
 have f1 := free_of hx 1
 have Hb := Lib.hid (below_step hb0 hb)
 clear hx hb hb0
 obtain ⟨L, hL⟩ : ∃ L, L = lowF n 100 := ⟨_, rfl⟩
 have HL := Lib.hid (show Ending.returned (.agg #[.int .i64 L.1, .int .i64 L.2]) = Ending.returned (frV (lowF n 100)) by rw [hL]; rfl)
 rw [← hL]
 clear hL
 go_wp2_with fail
 try simp only [Exit.inBlock, Exit.then]
 refine bodyPost_ret (v := .agg #[.int .i64 L.1, .int .i64 L.2]) ?_ rfl ⟨HL.out, (Hb.out.setCell (p := ⟨w.heap.size, 0, none⟩) (Nat.le_refl _) _).setCell (p := ⟨w.heap.size, 1, none⟩) (Nat.le_refl _) _⟩
 rw [results_cell1 rfl]
 go_simp
set_option maxHeartbeats 400000 in
theorem hundredthsR_calls (n d : Int) (w : World) (hd : 0 < d) (h1 : Int64 (n * ((100 : Int).tdiv d))) (h2 : d ≤ 100) :
  Calls Tryz.prog 64 #[frV (n, d)] w fun e w' => e = .returned (.int .i64 (n * ((100 : Int).tdiv d))) ∧ Below w.heap.size w w' := by
 unfold frV Int64 at *
 have hd0 : d ≠ 0 := by omega
 have h3 := tdiv_64 (show Int64 100 by unfold Int64; omega) hd
 unfold Int64 at h3
 go_enter Tryz.func64, Tryz.ntmps64
 go_wp2_with fail
 go_quiet (fail)
 go_wp2_with fail
 go_ret
 exact ⟨rfl, below_drewN (below_alloc w _) nq⟩

set_option maxRecDepth 100000 in
set_option maxHeartbeats 1000000 in
theorem pointsFault_calls (n d : Int) (w : World) (hn : Int64 n) (hd : Int64 d) :
  Calls Tryz.prog 58 #[frV (n, d), .int .i64 10000] w fun e w' => e = .returned (.int .i64 (wrongF n d 10000)) ∧ Below w.heap.size w w' := by
 have hb := below_alloc w (.cells #[.int .i64 n, .int .i64 d] 34)
 unfold frV
 by_cases h0 : d < 1
 ·have HW := Lib.hid (show wrongF n d 10000 = 3 by unfold wrongF; rw [if_pos (Or.inl (by omega))])
  go_enter Tryz.func58, Tryz.ntmps58; go_wp2_with fail
  go_ret
  exact ⟨ret_int HW.out.symm, hb⟩
 ·have C := fun w => Lib.hid (divisorR_calls n d w hn hd (by omega))
  have Hd := Lib.hid hd; have HS := fun (w' : World) (h : Below (w.alloc (.cells #[.int .i64 n, .int .i64 d] 34)).heap.size (w.alloc (.cells #[.int .i64 n, .int .i64 d] 34)) w') => Lib.hid (show w'.cell? ⟨w.heap.size, 0, none⟩ = some (.int .i64 n) ∧ w'.cell? ⟨w.heap.size, 1, none⟩ = some (.int .i64 d) ∧ Below w.heap.size w w' from ⟨cell_at (cells_later (heap_alloc_new w _) h) 0 rfl, cell_at (cells_later (heap_alloc_new w _) h) 1 rfl, below_step hb h⟩)
  have Hb := Lib.hid hb; clear hb hd; by_cases h1 : gcdI n d = 1
  ·rw [h1] at C
   have H1 := Lib.hid h1; clear h1; by_cases h2 : (100 : Int) % d = 0
   ·have h3 := den_100 h2
    by_cases h4 : n < -10000 * d
    ·have HW := Lib.hid (show wrongF n d 10000 = 1 by have h1 := H1.out; unfold wrongF; rw [if_neg (by omega), if_pos (by omega)])
     clear hn; go_enter Tryz.func58, Tryz.ntmps58; go_wp2_with fail
     refine (C _).out.mono ?_; rintro e w' ⟨rfl, hb⟩; obtain ⟨z0, z1, hb⟩ := (HS w' hb).out; go_wp2_with fail
     go_ret
     exact ⟨ret_int HW.out.symm, hb⟩
    ·by_cases h5 : n > 10000 * d
     ·have HW := Lib.hid (show wrongF n d 10000 = 1 by have h1 := H1.out; unfold wrongF; rw [if_neg (by omega), if_pos (by omega)])
      clear hn; go_enter Tryz.func58, Tryz.ntmps58; go_wp2_with fail
      refine (C _).out.mono ?_; rintro e w' ⟨rfl, hb⟩; obtain ⟨z0, z1, hb⟩ := (HS w' hb).out; go_wp2_with fail
      go_ret
      exact ⟨ret_int HW.out.symm, hb⟩
     ·have HW := Lib.hid (show wrongF n d 10000 = 0 by have h1 := H1.out; unfold wrongF; rw [if_neg (by omega), if_neg (by omega)])
      clear hn; go_enter Tryz.func58, Tryz.ntmps58; go_wp2_with fail
      refine (C _).out.mono ?_; rintro e w' ⟨rfl, hb⟩; obtain ⟨z0, z1, hb⟩ := (HS w' hb).out; go_wp2_with fail
      go_ret
      exact ⟨ret_int HW.out.symm, hb⟩
   ·have HW := Lib.hid (show wrongF n d 10000 = 1 by have h1 := H1.out; unfold wrongF; rw [if_neg (by omega), if_pos (by omega)])
    have h5 : ((100 : Int) % d != 0) = true := by simpa using h2
    have hr1 := Int.emod_nonneg 100 (show d ≠ 0 by omega)
    have hr2 := Int.emod_lt_of_pos 100 (show 0 < d by omega)
    have h6 : d ≠ 0 := by omega
    have hd2 : d ≤ 9223372036854775807 := Hd.out.2
    clear h2 hn; go_enter Tryz.func58, Tryz.ntmps58; go_wp2_with fail
    refine (C _).out.mono ?_; rintro e w' ⟨rfl, hb⟩; obtain ⟨z0, z1, hb⟩ := (HS w' hb).out; go_wp2_with fail
    go_ret
    exact ⟨ret_int HW.out.symm, hb⟩
  ·have HW := Lib.hid (show wrongF n d 10000 = 3 by unfold wrongF; rw [if_pos (Or.inr h1)])
   have h5 : (gcdI n d != 1) = true := by simpa using h1
   clear h1 hn; generalize gcdI n d = G at C h5
   go_enter Tryz.func58, Tryz.ntmps58; go_wp2_with fail
   refine (C _).out.mono ?_; rintro e w' ⟨rfl, hb⟩; obtain ⟨z0, z1, hb⟩ := (HS w' hb).out; go_wp2_with fail
   go_ret
   exact ⟨ret_int HW.out.symm, hb⟩
end Go.Proofs.YtfcaokpadodijaaGreat
/- Rules, statistics and lines in memory. -/
namespace Go.Proofs.YtfcaokpadodijaaGreat
open Go.RowKit

/-- A rule. -/
structure RD where
 key : ByteArray
 stat : ByteArray
 pos : ByteArray
 kind : Int
 many : Int
 num : Int
 den : Int
/-- How often something was done. -/
structure TD where
 name : ByteArray
 count : Int
/-- A line. -/
structure LD where
 player : ByteArray
 week : Int
 stats : List TD

def rlRow (r : RD) : List Value := [.string r.key, .string r.stat, .string r.pos, .int .i64 r.kind, .int .i64 r.many, .int .i64 r.num, .int .i64 r.den]
def rlV (r : RD) : Value := .agg #[.string r.key, .string r.stat, .string r.pos, .int .i64 r.kind, .int .i64 r.many, .int .i64 r.num, .int .i64 r.den]
def stRow (t : TD) : List Value := [.string t.name, .int .i64 t.count]
def lnV (l : LD) (x : Value) : Value := .agg #[.string l.player, .int .i64 l.week, x]
def Rls (w : World) (lo : Nat) (v : Value) (rs : List RD) : Prop := Rows w 114 lo 7 v (rs.map rlRow)
def Tds (w : World) (lo : Nat) (v : Value) (ts : List TD) : Prop := Rows w 117 lo 2 v (ts.map stRow)
def lnRows (ls : List LD) (svs : List Value) : List (List Value) := List.zipWith (fun (l : LD) (x : Value) => [.string l.player, .int .i64 l.week, x]) ls svs
def Lns (w : World) (lo : Nat) (v : Value) (ls : List LD) : Prop :=
 ∃ svs : List Value, svs.length = ls.length ∧ Rows w 120 lo 3 v (lnRows ls svs) ∧ ∀ (i : Nat) (x : Value) (l : LD), svs[i]? = some x → ls[i]? = some l → Tds w lo x l.stats
def SmallR (r : RD) : Prop := r.key.size ≤ 1000 ∧ r.stat.size ≤ 1000 ∧ r.pos.size ≤ 1000 ∧ Int64 r.kind ∧ Int64 r.many ∧ Int64 r.num ∧ Int64 r.den
def SmallT (t : TD) : Prop := t.name.size ≤ 1000 ∧ Int64 t.count
def SmallL (l : LD) : Prop := l.player.size ≤ 1000 ∧ Int64 l.week ∧ l.stats.length ≤ 1000 ∧ ∀ t ∈ l.stats, SmallT t

theorem rls_at {w : World} {lo : Nat} {v : Value} {rs : List RD} (h : Rls w lo v rs) :
  (v = .slice none 0 0 ∧ rs = []) ∨ ∃ g off cap, v = .slice (some ⟨g, off, none⟩) rs.length cap ∧ lo ≤ g ∧ g < w.heap.size ∧ rs.length ≤ 1000000 ∧
   ∀ (i : Nat) (r : RD), rs[i]? = some r → w.cell? ⟨g, off + i * 7, none⟩ = some (.string r.key) ∧ w.cell? ⟨g, off + i * 7 + 1, none⟩ = some (.string r.stat) ∧ w.cell? ⟨g, off + i * 7 + 2, none⟩ = some (.string r.pos) ∧
    w.cell? ⟨g, off + i * 7 + 3, none⟩ = some (.int .i64 r.kind) ∧ w.cell? ⟨g, off + i * 7 + 4, none⟩ = some (.int .i64 r.many) ∧ w.cell? ⟨g, off + i * 7 + 5, none⟩ = some (.int .i64 r.num) ∧ w.cell? ⟨g, off + i * 7 + 6, none⟩ = some (.int .i64 r.den) := by
 rcases rows_at h with ⟨e1, e2⟩ | ⟨g, off, cap, e1, e2, e3, hc⟩
 ·exact .inl ⟨e1, by simpa using e2⟩
 ·refine .inr ⟨g, off, cap, by simpa using e1, e2, e3, by simpa using h.small, fun i r hr => ?_⟩
  have hx : ∀ (j : Nat) (u : Value), (rlRow r)[j]? = some u → w.cell? ⟨g, off + i * 7 + j, none⟩ = some u := fun j u hu => hc i j u (by simpa [hr] using hu)
  exact ⟨hx 0 _ rfl, hx 1 _ rfl, hx 2 _ rfl, hx 3 _ rfl, hx 4 _ rfl, hx 5 _ rfl, hx 6 _ rfl⟩
theorem tds_at {w : World} {lo : Nat} {v : Value} {ts : List TD} (h : Tds w lo v ts) :
  (v = .slice none 0 0 ∧ ts = []) ∨ ∃ g off cap, v = .slice (some ⟨g, off, none⟩) ts.length cap ∧ lo ≤ g ∧ g < w.heap.size ∧ ts.length ≤ 1000000 ∧
   ∀ (i : Nat) (t : TD), ts[i]? = some t → w.cell? ⟨g, off + i * 2, none⟩ = some (.string t.name) ∧ w.cell? ⟨g, off + i * 2 + 1, none⟩ = some (.int .i64 t.count) := by
 rcases rows_at h with ⟨e1, e2⟩ | ⟨g, off, cap, e1, e2, e3, hc⟩
 ·exact .inl ⟨e1, by simpa using e2⟩
 ·refine .inr ⟨g, off, cap, by simpa using e1, e2, e3, by simpa using h.small, fun i t ht => ?_⟩
  have hx : ∀ (j : Nat) (u : Value), (stRow t)[j]? = some u → w.cell? ⟨g, off + i * 2 + j, none⟩ = some u := fun j u hu => hc i j u (by simpa [ht] using hu)
  exact ⟨hx 0 _ rfl, hx 1 _ rfl⟩
theorem tds_shape {w : World} {lo : Nat} {v : Value} {ts : List TD} (h : Tds w lo v ts) : ∃ a c, v = .slice a ts.length c := by
 rcases tds_at h with ⟨rfl, rfl⟩ | ⟨g, off, cap, rfl, _⟩
 ·exact ⟨none, 0, rfl⟩
 ·exact ⟨_, _, rfl⟩
theorem rls_shape {w : World} {lo : Nat} {v : Value} {ts : List RD} (h : Rls w lo v ts) : ∃ a c, v = .slice a ts.length c := by
 rcases rls_at h with ⟨rfl, rfl⟩ | ⟨g, off, cap, rfl, _⟩
 ·exact ⟨none, 0, rfl⟩
 ·exact ⟨_, _, rfl⟩
theorem Rls.below {w w' : World} {lo : Nat} {v : Value} {rs : List RD} (h : Rls w lo v rs) (hb : Below w.heap.size w w') : Rls w' lo v rs := Rows.below h hb
theorem Tds.below {w w' : World} {lo : Nat} {v : Value} {rs : List TD} (h : Tds w lo v rs) (hb : Below w.heap.size w w') : Tds w' lo v rs := Rows.below h hb
theorem Lns.below {w w' : World} {lo : Nat} {v : Value} {ls : List LD} (h : Lns w lo v ls) (hb : Below w.heap.size w w') : Lns w' lo v ls := by
 obtain ⟨svs, h1, h2, h3⟩ := h
 exact ⟨svs, h1, h2.below hb, fun i x l hx hl => (h3 i x l hx hl).below hb⟩
theorem Rls.other {w w' : World} {lo B : Nat} {v : Value} {rs : List RD} (h : Rls w lo v rs) (hg : w.grownBy w' (some B)) (hB : B < lo) : Rls w' lo v rs := Rows.other h hg hB
theorem Tds.other {w w' : World} {lo B : Nat} {v : Value} {rs : List TD} (h : Tds w lo v rs) (hg : w.grownBy w' (some B)) (hB : B < lo) : Tds w' lo v rs := Rows.other h hg hB
theorem Tds.mono {w : World} {lo lo' : Nat} {v : Value} {rs : List TD} (h : Tds w lo v rs) (hl : lo' ≤ lo) : Tds w lo' v rs := Rows.mono h hl
theorem Lns.other {w w' : World} {lo B : Nat} {v : Value} {ls : List LD} (h : Lns w lo v ls) (hg : w.grownBy w' (some B)) (hB : B < lo) : Lns w' lo v ls := by
 obtain ⟨svs, h1, h2, h3⟩ := h
 exact ⟨svs, h1, h2.other hg hB, fun i x l hx hl => (h3 i x l hx hl).other hg hB⟩

theorem cells_new (w : World) (xs : List Value) (t : Nat) : ∀ j u, xs[j]? = some u → (w.alloc (.cells xs.toArray t)).cell? ((⟨w.heap.size, 0, none⟩ : Addr).add j) = some u := by
 intro j u hu
 have hadd : (⟨w.heap.size, 0, none⟩ : Addr).add j = ⟨w.heap.size, j, none⟩ := by unfold Addr.add; split <;> simp_all
 rw [hadd, World.cell?_alloc_at _ _ _ _ rfl]
 simpa using hu
theorem small_of' {k : ByteArray} {ks : List ByteArray} (h : ks.all (fun k => decide (k.size ≤ 1000)) = true) (hk : k ∈ ks) : k.size ≤ 1000 := by
 rw [List.all_eq_true] at h
 simpa using h k hk
end Go.Proofs.YtfcaokpadodijaaGreat
/- CheckRules. -/
namespace Go.Proofs.YtfcaokpadodijaaGreat
open Go.RowKit

/-- Is Many right for the kind? -/
def manyB (kind many : Int) : Bool := if kind = 2 ∨ kind = 3 then betwB many 1 100000 else many == 0
set_option maxRecDepth 100000 in
set_option maxHeartbeats 1000000 in
theorem manyFits_calls (r : RD) (w : World) : Calls Tryz.prog 148 #[rlV r] w fun e w' => e = .returned (.bool (manyB r.kind r.many)) ∧ Below w.heap.size w w' := by
 have hb := below_alloc w (.cells (rlRow r).toArray 114)
 unfold rlRow at hb
 unfold rlV
 by_cases h2 : r.kind = 2
 ·have e1 : (r.kind == 2) = true := by simp [h2]
  have HM := Lib.hid (show manyB r.kind r.many = betwB r.many 1 100000 by simp [manyB, h2])
  clear h2; go_enter Tryz.func148, Tryz.ntmps148; go_wp2_with fail
  refine (between_calls _ 1 100000 _).mono ?_; rintro e w' ⟨rfl, rfl⟩; go_wp2_with fail
  go_ret
  exact ⟨ret_bool HM.out.symm, hb⟩
 ·have e1 : (r.kind == 2) = false := by simp [h2]
  by_cases h3 : r.kind = 3
  ·have e2 : (r.kind == 3) = true := by simp [h3]
   have HM := Lib.hid (show manyB r.kind r.many = betwB r.many 1 100000 by simp [manyB, h3])
   clear h2 h3; go_enter Tryz.func148, Tryz.ntmps148; go_wp2_with fail
   refine (between_calls _ 1 100000 _).mono ?_; rintro e w' ⟨rfl, rfl⟩; go_wp2_with fail
   go_ret
   exact ⟨ret_bool HM.out.symm, hb⟩
  ·have e2 : (r.kind == 3) = false := by simp [h3]
   have HM := Lib.hid (show manyB r.kind r.many = (r.many == 0) by simp [manyB, h2, h3])
   clear h2 h3; go_enter Tryz.func148, Tryz.ntmps148; go_wp2_with fail
   go_ret
   exact ⟨ret_bool HM.out.symm, hb⟩

/-- Rule i of some. -/
def rlAt (rs : List RD) (i : Nat) : RD := rs[i]?.getD ⟨ByteArray.empty, ByteArray.empty, ByteArray.empty, 0, 0, 0, 1⟩
theorem rlAt_some {rs : List RD} {i : Nat} {r : RD} (h : rs[i]? = some r) : rlAt rs i = r := by simp [rlAt, h]
/-- What is wrong with rule i. -/
def rlF (rs : List RD) (i : Nat) : Int :=
 firstE [unlessE (keyB (rlAt rs i).key && keyB (rlAt rs i).stat) 5, unlessE (decide ((rlAt rs i).pos.size = 0) || keyB (rlAt rs i).pos) 5, unlessE (decide (i = 0) || ltS (rlAt rs (i - 1)).key (rlAt rs i).key) 7,
  unlessE (betwB (rlAt rs i).kind 1 4) 4, unlessE (manyB (rlAt rs i).kind (rlAt rs i).many) 1, wrongF (rlAt rs i).num (rlAt rs i).den 10000]
theorem nums6 (w : World) (T : Nat) (a b c d e f : Int) : NumsAt (w.alloc (.cells #[.int .i64 a, .int .i64 b, .int .i64 c, .int .i64 d, .int .i64 e, .int .i64 f] T)) w.heap.size 0 [a, b, c, d, e, f] := by
 intro i x hx
 rw [World.cell?_alloc_at _ _ _ _ rfl]
 match i, hx with
 | 0, hx => simp at hx; subst hx; rfl
 | 1, hx => simp at hx; subst hx; rfl
 | 2, hx => simp at hx; subst hx; rfl
 | 3, hx => simp at hx; subst hx; rfl
 | 4, hx => simp at hx; subst hx; rfl
 | 5, hx => simp at hx; subst hx; rfl
def o147_2 : Array Go.Oper := #[
 ⟨some 9, .fieldAddr 114 (.tmp 4) 0, 0, "score.go:33", #[], none⟩,
 ⟨some 10, .load 9 (.tmp 9), 9, "score.go:33", #[⟨0, .data⟩], none⟩,
 ⟨some 11, .call { callee := .value (.func 71), args := #[.tmp 10], argTypes := #[9] }, 4, "score.go:34", #[⟨1, .data⟩], none⟩,
 ⟨some 12, .move (.tmp 11), 4, "score.go:33", #[⟨2, .data⟩, ⟨2, .chain⟩], none⟩,
 ⟨some 13, .fieldAddr 114 (.tmp 4) 1, 0, "score.go:33", #[⟨3, .guard⟩], some (3, true)⟩,
 ⟨some 14, .load 9 (.tmp 13), 9, "score.go:33", #[⟨4, .data⟩, ⟨3, .guard⟩], some (3, true)⟩,
 ⟨some 15, .call { callee := .value (.func 71), args := #[.tmp 14], argTypes := #[9] }, 4, "score.go:34", #[⟨5, .data⟩, ⟨3, .chain⟩, ⟨3, .guard⟩], some (3, true)⟩,
 ⟨some 16, .pick (.tmp 12) (.tmp 15) (.const (.bool false)), 4, "score.go:33", #[⟨3, .data⟩, ⟨6, .data⟩], none⟩,
 ⟨some 17, .call { callee := .value (.func 47), args := #[.tmp 16, .const (.int .i64 5)], argTypes := #[4, 35] }, 35, "score.go:34", #[⟨7, .data⟩, ⟨6, .chain⟩], none⟩,
 ⟨some 18, .fieldAddr 114 (.tmp 4) 2, 0, "score.go:33", #[], none⟩,
 ⟨some 19, .load 9 (.tmp 18), 9, "score.go:33", #[⟨9, .data⟩], none⟩,
 ⟨some 20, .binOp .eql 9 (.tmp 19) (.const (.string { data := #[] })) 9, 4, "score.go:33", #[⟨10, .data⟩], none⟩,
 ⟨some 21, .move (.tmp 20), 4, "score.go:33", #[⟨11, .data⟩, ⟨8, .chain⟩], none⟩,
 ⟨some 22, .fieldAddr 114 (.tmp 4) 2, 0, "score.go:33", #[⟨12, .guard⟩], some (12, false)⟩,
 ⟨some 23, .load 9 (.tmp 22), 9, "score.go:33", #[⟨13, .data⟩, ⟨12, .guard⟩], some (12, false)⟩,
 ⟨some 24, .call { callee := .value (.func 71), args := #[.tmp 23], argTypes := #[9] }, 4, "score.go:35", #[⟨14, .data⟩, ⟨12, .chain⟩, ⟨12, .guard⟩], some (12, false)⟩,
 ⟨some 25, .pick (.tmp 21) (.const (.bool true)) (.tmp 24), 4, "score.go:33", #[⟨12, .data⟩, ⟨15, .data⟩], none⟩,
 ⟨some 26, .call { callee := .value (.func 47), args := #[.tmp 25, .const (.int .i64 5)], argTypes := #[4, 35] }, 35, "score.go:35", #[⟨16, .data⟩, ⟨15, .chain⟩], none⟩,
 ⟨some 27, .move (.tmp 0), 3, "score.go:33", #[], none⟩,
 ⟨some 28, .binOp .eql 3 (.tmp 27) (.const (.int .i64 0)) 3, 4, "score.go:33", #[⟨18, .data⟩], none⟩,
 ⟨some 29, .move (.tmp 28), 4, "score.go:33", #[⟨19, .data⟩, ⟨17, .chain⟩], none⟩,
 ⟨some 30, .load 115 (.tmp 1), 115, "score.go:33", #[⟨20, .guard⟩], some (20, false)⟩,
 ⟨some 31, .move (.tmp 0), 3, "score.go:33", #[⟨20, .guard⟩], some (20, false)⟩,
 ⟨some 32, .binOp .sub 3 (.tmp 31) (.const (.int .i64 1)) 3, 3, "score.go:33", #[⟨22, .data⟩, ⟨20, .guard⟩], some (20, false)⟩,
 ⟨some 33, .indexAddr 115 (.tmp 30) (.tmp 32), 0, "score.go:33", #[⟨21, .data⟩, ⟨23, .data⟩, ⟨20, .guard⟩], some (20, false)⟩,
 ⟨some 34, .fieldAddr 114 (.tmp 33) 0, 0, "score.go:33", #[⟨24, .data⟩, ⟨20, .guard⟩], some (20, false)⟩,
 ⟨some 35, .load 9 (.tmp 34), 9, "score.go:33", #[⟨25, .data⟩, ⟨20, .guard⟩], some (20, false)⟩,
 ⟨some 36, .fieldAddr 114 (.tmp 4) 0, 0, "score.go:33", #[⟨20, .guard⟩], some (20, false)⟩,
 ⟨some 37, .load 9 (.tmp 36), 9, "score.go:33", #[⟨27, .data⟩, ⟨20, .guard⟩], some (20, false)⟩,
 ⟨some 38, .binOp .lss 9 (.tmp 35) (.tmp 37) 9, 4, "score.go:33", #[⟨26, .data⟩, ⟨28, .data⟩, ⟨20, .guard⟩], some (20, false)⟩,
 ⟨some 39, .pick (.tmp 29) (.const (.bool true)) (.tmp 38), 4, "score.go:33", #[⟨20, .data⟩, ⟨29, .data⟩], none⟩,
 ⟨some 40, .call { callee := .value (.func 47), args := #[.tmp 39, .const (.int .i64 7)], argTypes := #[4, 35] }, 35, "score.go:36", #[⟨30, .data⟩, ⟨20, .chain⟩], none⟩,
 ⟨some 41, .fieldAddr 114 (.tmp 4) 3, 0, "score.go:33", #[], none⟩,
 ⟨some 42, .load 3 (.tmp 41), 3, "score.go:33", #[⟨32, .data⟩], none⟩,
 ⟨some 43, .call { callee := .value (.func 116), args := #[.tmp 42, .const (.int .i64 1), .const (.int .i64 4)], argTypes := #[3, 3, 3] }, 4, "score.go:37", #[⟨33, .data⟩, ⟨31, .chain⟩], none⟩,
 ⟨some 44, .call { callee := .value (.func 47), args := #[.tmp 43, .const (.int .i64 4)], argTypes := #[4, 35] }, 35, "score.go:37", #[⟨34, .data⟩, ⟨34, .chain⟩], none⟩,
 ⟨some 45, .load 114 (.tmp 4), 114, "score.go:33", #[], none⟩,
 ⟨some 46, .call { callee := .value (.func 148), args := #[.tmp 45], argTypes := #[114] }, 4, "score.go:38", #[⟨36, .data⟩, ⟨35, .chain⟩], none⟩,
 ⟨some 47, .call { callee := .value (.func 47), args := #[.tmp 46, .const (.int .i64 1)], argTypes := #[4, 35] }, 35, "score.go:38", #[⟨37, .data⟩, ⟨37, .chain⟩], none⟩,
 ⟨some 48, .fieldAddr 114 (.tmp 4) 5, 0, "score.go:33", #[], none⟩,
 ⟨some 49, .load 34 (.tmp 48), 34, "score.go:33", #[⟨39, .data⟩], none⟩,
 ⟨some 50, .call { callee := .value (.func 74), args := #[.tmp 49, .const (.int .i64 10000)], argTypes := #[34, 3] }, 35, "score.go:39", #[⟨40, .data⟩, ⟨38, .chain⟩], none⟩,
 ⟨some 51, .buildSlice 90 6 #[(0, .tmp 17), (1, .tmp 26), (2, .tmp 40), (3, .tmp 44), (4, .tmp 47), (5, .tmp 50)], 90, "score.go:33", #[⟨8, .data⟩, ⟨17, .data⟩, ⟨31, .data⟩, ⟨35, .data⟩, ⟨38, .data⟩, ⟨41, .data⟩], none⟩,
 ⟨some 52, .call { callee := .value (.func 46), args := #[.tmp 51], argTypes := #[90] }, 35, "score.go:33", #[⟨42, .data⟩, ⟨41, .chain⟩], none⟩,
 ⟨some 3, .assign (.tmp 52), 35, "score.go:33", #[⟨43, .data⟩, ⟨43, .chain⟩, ⟨0, .phase⟩, ⟨1, .phase⟩, ⟨2, .phase⟩, ⟨3, .phase⟩, ⟨4, .phase⟩, ⟨5, .phase⟩, ⟨6, .phase⟩, ⟨7, .phase⟩, ⟨8, .phase⟩, ⟨9, .phase⟩, ⟨10, .phase⟩, ⟨11, .phase⟩, ⟨12, .phase⟩, ⟨13, .phase⟩, ⟨14, .phase⟩, ⟨15, .phase⟩, ⟨16, .phase⟩, ⟨17, .phase⟩, ⟨18, .phase⟩, ⟨19, .phase⟩, ⟨20, .phase⟩, ⟨21, .phase⟩, ⟨22, .phase⟩, ⟨23, .phase⟩, ⟨24, .phase⟩, ⟨25, .phase⟩, ⟨26, .phase⟩, ⟨27, .phase⟩, ⟨28, .phase⟩, ⟨29, .phase⟩, ⟨30, .phase⟩, ⟨31, .phase⟩, ⟨32, .phase⟩, ⟨33, .phase⟩, ⟨34, .phase⟩, ⟨35, .phase⟩, ⟨36, .phase⟩, ⟨37, .phase⟩, ⟨38, .phase⟩, ⟨39, .phase⟩, ⟨40, .phase⟩, ⟨41, .phase⟩, ⟨42, .phase⟩, ⟨43, .phase⟩], none⟩]
theorem o147_2_0 : o147_2[0]? = some (⟨some 9, .fieldAddr 114 (.tmp 4) 0, 0, "score.go:33", #[], none⟩ : Go.Oper) := rfl
theorem o147_2_1 : o147_2[1]? = some (⟨some 10, .load 9 (.tmp 9), 9, "score.go:33", #[⟨0, .data⟩], none⟩ : Go.Oper) := rfl
theorem o147_2_2 : o147_2[2]? = some (⟨some 11, .call { callee := .value (.func 71), args := #[.tmp 10], argTypes := #[9] }, 4, "score.go:34", #[⟨1, .data⟩], none⟩ : Go.Oper) := rfl
theorem o147_2_3 : o147_2[3]? = some (⟨some 12, .move (.tmp 11), 4, "score.go:33", #[⟨2, .data⟩, ⟨2, .chain⟩], none⟩ : Go.Oper) := rfl
theorem o147_2_4 : o147_2[4]? = some (⟨some 13, .fieldAddr 114 (.tmp 4) 1, 0, "score.go:33", #[⟨3, .guard⟩], some (3, true)⟩ : Go.Oper) := rfl
theorem o147_2_5 : o147_2[5]? = some (⟨some 14, .load 9 (.tmp 13), 9, "score.go:33", #[⟨4, .data⟩, ⟨3, .guard⟩], some (3, true)⟩ : Go.Oper) := rfl
theorem o147_2_6 : o147_2[6]? = some (⟨some 15, .call { callee := .value (.func 71), args := #[.tmp 14], argTypes := #[9] }, 4, "score.go:34", #[⟨5, .data⟩, ⟨3, .chain⟩, ⟨3, .guard⟩], some (3, true)⟩ : Go.Oper) := rfl
theorem o147_2_7 : o147_2[7]? = some (⟨some 16, .pick (.tmp 12) (.tmp 15) (.const (.bool false)), 4, "score.go:33", #[⟨3, .data⟩, ⟨6, .data⟩], none⟩ : Go.Oper) := rfl
theorem o147_2_8 : o147_2[8]? = some (⟨some 17, .call { callee := .value (.func 47), args := #[.tmp 16, .const (.int .i64 5)], argTypes := #[4, 35] }, 35, "score.go:34", #[⟨7, .data⟩, ⟨6, .chain⟩], none⟩ : Go.Oper) := rfl
theorem o147_2_9 : o147_2[9]? = some (⟨some 18, .fieldAddr 114 (.tmp 4) 2, 0, "score.go:33", #[], none⟩ : Go.Oper) := rfl
theorem o147_2_10 : o147_2[10]? = some (⟨some 19, .load 9 (.tmp 18), 9, "score.go:33", #[⟨9, .data⟩], none⟩ : Go.Oper) := rfl
theorem o147_2_11 : o147_2[11]? = some (⟨some 20, .binOp .eql 9 (.tmp 19) (.const (.string { data := #[] })) 9, 4, "score.go:33", #[⟨10, .data⟩], none⟩ : Go.Oper) := rfl
theorem o147_2_12 : o147_2[12]? = some (⟨some 21, .move (.tmp 20), 4, "score.go:33", #[⟨11, .data⟩, ⟨8, .chain⟩], none⟩ : Go.Oper) := rfl
theorem o147_2_13 : o147_2[13]? = some (⟨some 22, .fieldAddr 114 (.tmp 4) 2, 0, "score.go:33", #[⟨12, .guard⟩], some (12, false)⟩ : Go.Oper) := rfl
theorem o147_2_14 : o147_2[14]? = some (⟨some 23, .load 9 (.tmp 22), 9, "score.go:33", #[⟨13, .data⟩, ⟨12, .guard⟩], some (12, false)⟩ : Go.Oper) := rfl
theorem o147_2_15 : o147_2[15]? = some (⟨some 24, .call { callee := .value (.func 71), args := #[.tmp 23], argTypes := #[9] }, 4, "score.go:35", #[⟨14, .data⟩, ⟨12, .chain⟩, ⟨12, .guard⟩], some (12, false)⟩ : Go.Oper) := rfl
theorem o147_2_16 : o147_2[16]? = some (⟨some 25, .pick (.tmp 21) (.const (.bool true)) (.tmp 24), 4, "score.go:33", #[⟨12, .data⟩, ⟨15, .data⟩], none⟩ : Go.Oper) := rfl
theorem o147_2_17 : o147_2[17]? = some (⟨some 26, .call { callee := .value (.func 47), args := #[.tmp 25, .const (.int .i64 5)], argTypes := #[4, 35] }, 35, "score.go:35", #[⟨16, .data⟩, ⟨15, .chain⟩], none⟩ : Go.Oper) := rfl
theorem o147_2_18 : o147_2[18]? = some (⟨some 27, .move (.tmp 0), 3, "score.go:33", #[], none⟩ : Go.Oper) := rfl
theorem o147_2_19 : o147_2[19]? = some (⟨some 28, .binOp .eql 3 (.tmp 27) (.const (.int .i64 0)) 3, 4, "score.go:33", #[⟨18, .data⟩], none⟩ : Go.Oper) := rfl
theorem o147_2_20 : o147_2[20]? = some (⟨some 29, .move (.tmp 28), 4, "score.go:33", #[⟨19, .data⟩, ⟨17, .chain⟩], none⟩ : Go.Oper) := rfl
theorem o147_2_21 : o147_2[21]? = some (⟨some 30, .load 115 (.tmp 1), 115, "score.go:33", #[⟨20, .guard⟩], some (20, false)⟩ : Go.Oper) := rfl
theorem o147_2_22 : o147_2[22]? = some (⟨some 31, .move (.tmp 0), 3, "score.go:33", #[⟨20, .guard⟩], some (20, false)⟩ : Go.Oper) := rfl
theorem o147_2_23 : o147_2[23]? = some (⟨some 32, .binOp .sub 3 (.tmp 31) (.const (.int .i64 1)) 3, 3, "score.go:33", #[⟨22, .data⟩, ⟨20, .guard⟩], some (20, false)⟩ : Go.Oper) := rfl
theorem o147_2_24 : o147_2[24]? = some (⟨some 33, .indexAddr 115 (.tmp 30) (.tmp 32), 0, "score.go:33", #[⟨21, .data⟩, ⟨23, .data⟩, ⟨20, .guard⟩], some (20, false)⟩ : Go.Oper) := rfl
theorem o147_2_25 : o147_2[25]? = some (⟨some 34, .fieldAddr 114 (.tmp 33) 0, 0, "score.go:33", #[⟨24, .data⟩, ⟨20, .guard⟩], some (20, false)⟩ : Go.Oper) := rfl
theorem o147_2_26 : o147_2[26]? = some (⟨some 35, .load 9 (.tmp 34), 9, "score.go:33", #[⟨25, .data⟩, ⟨20, .guard⟩], some (20, false)⟩ : Go.Oper) := rfl
theorem o147_2_27 : o147_2[27]? = some (⟨some 36, .fieldAddr 114 (.tmp 4) 0, 0, "score.go:33", #[⟨20, .guard⟩], some (20, false)⟩ : Go.Oper) := rfl
theorem o147_2_28 : o147_2[28]? = some (⟨some 37, .load 9 (.tmp 36), 9, "score.go:33", #[⟨27, .data⟩, ⟨20, .guard⟩], some (20, false)⟩ : Go.Oper) := rfl
theorem o147_2_29 : o147_2[29]? = some (⟨some 38, .binOp .lss 9 (.tmp 35) (.tmp 37) 9, 4, "score.go:33", #[⟨26, .data⟩, ⟨28, .data⟩, ⟨20, .guard⟩], some (20, false)⟩ : Go.Oper) := rfl
theorem o147_2_30 : o147_2[30]? = some (⟨some 39, .pick (.tmp 29) (.const (.bool true)) (.tmp 38), 4, "score.go:33", #[⟨20, .data⟩, ⟨29, .data⟩], none⟩ : Go.Oper) := rfl
theorem o147_2_31 : o147_2[31]? = some (⟨some 40, .call { callee := .value (.func 47), args := #[.tmp 39, .const (.int .i64 7)], argTypes := #[4, 35] }, 35, "score.go:36", #[⟨30, .data⟩, ⟨20, .chain⟩], none⟩ : Go.Oper) := rfl
theorem o147_2_32 : o147_2[32]? = some (⟨some 41, .fieldAddr 114 (.tmp 4) 3, 0, "score.go:33", #[], none⟩ : Go.Oper) := rfl
theorem o147_2_33 : o147_2[33]? = some (⟨some 42, .load 3 (.tmp 41), 3, "score.go:33", #[⟨32, .data⟩], none⟩ : Go.Oper) := rfl
theorem o147_2_34 : o147_2[34]? = some (⟨some 43, .call { callee := .value (.func 116), args := #[.tmp 42, .const (.int .i64 1), .const (.int .i64 4)], argTypes := #[3, 3, 3] }, 4, "score.go:37", #[⟨33, .data⟩, ⟨31, .chain⟩], none⟩ : Go.Oper) := rfl
theorem o147_2_35 : o147_2[35]? = some (⟨some 44, .call { callee := .value (.func 47), args := #[.tmp 43, .const (.int .i64 4)], argTypes := #[4, 35] }, 35, "score.go:37", #[⟨34, .data⟩, ⟨34, .chain⟩], none⟩ : Go.Oper) := rfl
theorem o147_2_36 : o147_2[36]? = some (⟨some 45, .load 114 (.tmp 4), 114, "score.go:33", #[], none⟩ : Go.Oper) := rfl
theorem o147_2_37 : o147_2[37]? = some (⟨some 46, .call { callee := .value (.func 148), args := #[.tmp 45], argTypes := #[114] }, 4, "score.go:38", #[⟨36, .data⟩, ⟨35, .chain⟩], none⟩ : Go.Oper) := rfl
theorem o147_2_38 : o147_2[38]? = some (⟨some 47, .call { callee := .value (.func 47), args := #[.tmp 46, .const (.int .i64 1)], argTypes := #[4, 35] }, 35, "score.go:38", #[⟨37, .data⟩, ⟨37, .chain⟩], none⟩ : Go.Oper) := rfl
theorem o147_2_39 : o147_2[39]? = some (⟨some 48, .fieldAddr 114 (.tmp 4) 5, 0, "score.go:33", #[], none⟩ : Go.Oper) := rfl
theorem o147_2_40 : o147_2[40]? = some (⟨some 49, .load 34 (.tmp 48), 34, "score.go:33", #[⟨39, .data⟩], none⟩ : Go.Oper) := rfl
theorem o147_2_41 : o147_2[41]? = some (⟨some 50, .call { callee := .value (.func 74), args := #[.tmp 49, .const (.int .i64 10000)], argTypes := #[34, 3] }, 35, "score.go:39", #[⟨40, .data⟩, ⟨38, .chain⟩], none⟩ : Go.Oper) := rfl
theorem o147_2_42 : o147_2[42]? = some (⟨some 51, .buildSlice 90 6 #[(0, .tmp 17), (1, .tmp 26), (2, .tmp 40), (3, .tmp 44), (4, .tmp 47), (5, .tmp 50)], 90, "score.go:33", #[⟨8, .data⟩, ⟨17, .data⟩, ⟨31, .data⟩, ⟨35, .data⟩, ⟨38, .data⟩, ⟨41, .data⟩], none⟩ : Go.Oper) := rfl
theorem o147_2_43 : o147_2[43]? = some (⟨some 52, .call { callee := .value (.func 46), args := #[.tmp 51], argTypes := #[90] }, 35, "score.go:33", #[⟨42, .data⟩, ⟨41, .chain⟩], none⟩ : Go.Oper) := rfl
theorem o147_2_44 : o147_2[44]? = some (⟨some 3, .assign (.tmp 52), 35, "score.go:33", #[⟨43, .data⟩, ⟨43, .chain⟩, ⟨0, .phase⟩, ⟨1, .phase⟩, ⟨2, .phase⟩, ⟨3, .phase⟩, ⟨4, .phase⟩, ⟨5, .phase⟩, ⟨6, .phase⟩, ⟨7, .phase⟩, ⟨8, .phase⟩, ⟨9, .phase⟩, ⟨10, .phase⟩, ⟨11, .phase⟩, ⟨12, .phase⟩, ⟨13, .phase⟩, ⟨14, .phase⟩, ⟨15, .phase⟩, ⟨16, .phase⟩, ⟨17, .phase⟩, ⟨18, .phase⟩, ⟨19, .phase⟩, ⟨20, .phase⟩, ⟨21, .phase⟩, ⟨22, .phase⟩, ⟨23, .phase⟩, ⟨24, .phase⟩, ⟨25, .phase⟩, ⟨26, .phase⟩, ⟨27, .phase⟩, ⟨28, .phase⟩, ⟨29, .phase⟩, ⟨30, .phase⟩, ⟨31, .phase⟩, ⟨32, .phase⟩, ⟨33, .phase⟩, ⟨34, .phase⟩, ⟨35, .phase⟩, ⟨36, .phase⟩, ⟨37, .phase⟩, ⟨38, .phase⟩, ⟨39, .phase⟩, ⟨40, .phase⟩, ⟨41, .phase⟩, ⟨42, .phase⟩, ⟨43, .phase⟩], none⟩ : Go.Oper) := rfl
theorem o147_2_ns : Go.Region.noSelect o147_2 = true := by kernel_rfl
set_option maxRecDepth 100000 in
set_option maxHeartbeats 16000000 in
theorem checkRules1_calls (c g off cap i lo : Nat) (rs : List RD) (r : RD) (w : World) (hi : rs[i]? = some r) (hs : SmallR r) (hn : rs.length ≤ 1000000)
  (h1 : w.cell? ⟨c, 0, none⟩ = some (.slice (some ⟨g, off, none⟩) rs.length cap)) (hR : Rls w lo (.slice (some ⟨g, off, none⟩) rs.length cap) rs) :
  Calls Tryz.prog 147 #[.int .i64 (i : Int), .pointer (some ⟨c, 0, none⟩)] w (IntBelow (rlF rs i) w) := by
 have hlt : i < rs.length := (List.getElem?_eq_some_iff.1 hi).1
 rcases rls_at hR with ⟨h, _⟩ | ⟨g', off', cap', e, _, _, _, hcell⟩
 ·cases h
 simp only [Value.slice.injEq, Option.some.injEq, Addr.mk.injEq, and_true, true_and] at e
 obtain ⟨⟨rfl, rfl⟩, rfl⟩ := e
 obtain ⟨q0, q1, q2, q3, q4, q5, q6⟩ := hcell i r hi
 obtain ⟨W, hW⟩ : ∃ W, W = w.alloc (.cells #[.string r.key, .string r.stat, .string r.pos, .int .i64 r.kind, .int .i64 r.many, .int .i64 r.num, .int .i64 r.den] 114) := ⟨_, rfl⟩
 have hwW : Below w.heap.size w W := by rw [hW]; exact below_alloc w _
 have hx : W.heap[w.heap.size]? = some (.cells #[.string r.key, .string r.stat, .string r.pos, .int .i64 r.kind, .int .i64 r.many, .int .i64 r.num, .int .i64 r.den] 114 (0, 0)) := by rw [hW]; exact heap_alloc_new w _
 have x0 := cell_at hx 0 rfl
 have x1 := cell_at hx 1 rfl
 have x2 := cell_at hx 2 rfl
 have x3 := cell_at hx 3 rfl
 have x4 := cell_at hx 4 rfl
 have x5 := cell_at hx 5 rfl
 have x6 := cell_at hx 6 rfl
 have c1 := below_cell hwW h1
 have hb0 := (Below.refl W.heap.size W).drew
 obtain ⟨hs1, hs2, hs3, hs4, hs5, hs6, hs7⟩ := hs
 have H6 := Lib.hid hs6
 have H7 := Lib.hid hs7
 have HS0 := Lib.hid (show ∀ w', Below W.heap.size W w' → (Below W.heap.size W w' ∧ w'.cell? ⟨c, 0, none⟩ = some (.slice (some ⟨g, off, none⟩) rs.length cap) ∧ w'.cell? ⟨w.heap.size, 0, none⟩ = some (.string r.key) ∧ w'.cell? ⟨w.heap.size, 1, none⟩ = some (.string r.stat) ∧ w'.cell? ⟨w.heap.size, 2, none⟩ = some (.string r.pos) ∧ w'.cell? ⟨w.heap.size, 3, none⟩ = some (.int .i64 r.kind) ∧ w'.cell? ⟨w.heap.size, 4, none⟩ = some (.int .i64 r.many) ∧ w'.cell? ⟨w.heap.size, 5, none⟩ = some (.int .i64 r.num) ∧ w'.cell? ⟨w.heap.size, 6, none⟩ = some (.int .i64 r.den)) from fun w' hb => ⟨hb, below_cell hb c1, below_cell hb x0, below_cell hb x1, below_cell hb x2, below_cell hb x3, below_cell hb x4, below_cell hb x5, below_cell hb x6⟩)
 have HE := Lib.hid (empty_of r.pos)
 clear hs4 hs5 hs6 hs7 hx
 by_cases hz : i = 0
 ·have e0 : ((i : Int) == 0) = true := by rw [beq_iff_eq]; omega
  have HS := HS0; by_cases hk : keyB r.key = true
  ·have HK := Lib.hid (show keyB r.key = true from by simpa using hk)
   by_cases hp : r.pos.size = 0
   ·have ep : r.pos.toList.isEmpty = true := by rw [HE.out]; simp [hp]
    have Hr := Lib.hid (show rlF rs i = firstE [unlessE (keyB r.stat) 5, unlessE true 5, unlessE true 7, unlessE (betwB r.kind 1 4) 4, unlessE (manyB r.kind r.many) 1, wrongF r.num r.den 10000] by rw [rlF, rlAt_some hi]; simp [hp, HK.out, hz])
    clear hk hp hi hz c1 x0 x1 x2 x3 x4 x5 x6 hR hcell HS0; go_enter Tryz.func147, Tryz.ntmps147; go_upto_region 2 with fail
    rw [← hW]; clear hW; show Code.wp _ (Code.region 2 o147_2 true) _ _ _
    refine region_start 45 (fun w' => Below W.heap.size W w' ∧ w'.cell? ⟨c, 0, none⟩ = some (.slice (some ⟨g, off, none⟩) rs.length cap) ∧ w'.cell? ⟨w.heap.size, 0, none⟩ = some (.string r.key) ∧ w'.cell? ⟨w.heap.size, 1, none⟩ = some (.string r.stat) ∧ w'.cell? ⟨w.heap.size, 2, none⟩ = some (.string r.pos) ∧ w'.cell? ⟨w.heap.size, 3, none⟩ = some (.int .i64 r.kind) ∧ w'.cell? ⟨w.heap.size, 4, none⟩ = some (.int .i64 r.many) ∧ w'.cell? ⟨w.heap.size, 5, none⟩ = some (.int .i64 r.num) ∧ w'.cell? ⟨w.heap.size, 6, none⟩ = some (.int .i64 r.den)) (by kernel_rfl) rfl ?_ (fun hHeld => ?_)
    ·(exact HS.out _ (by first | assumption | exact hHeld.1 | exact below_step hHeld.1 (by first | assumption | exact below_alloc _ _)))
    refine take_to 0 9 (bQ 45 1) (v := ?_) o147_2_0 rfl o147_2_ns (by kernel_rfl) (by kernel_rfl) (fun _ _ _ h => h) (by rfl) ?y0111 (by assumption) ?_
    case y0111 => intro w h; (try dsimp only at h); go_simp; try with_reducible rfl
    simp only [sE0, sE1]; refine take_to 1 10 (bQ 45 3) (v := ?_) o147_2_1 rfl o147_2_ns (by kernel_rfl) (by kernel_rfl) (fun _ _ _ h => h) (by rfl) ?y1111 (by assumption) ?_
    case y1111 => intro w h; (try dsimp only at h); go_simp; try with_reducible rfl
    simp only [sE0, sE1]; refine take_to 9 18 (bQ 45 515) (v := ?_) o147_2_9 rfl o147_2_ns (by kernel_rfl) (by kernel_rfl) (fun _ _ _ h => h) (by rfl) ?y9111 (by assumption) ?_
    case y9111 => intro w h; (try dsimp only at h); go_simp; try with_reducible rfl
    simp only [sE0, sE1]; refine take_to 10 19 (bQ 45 1539) (v := ?_) o147_2_10 rfl o147_2_ns (by kernel_rfl) (by kernel_rfl) (fun _ _ _ h => h) (by rfl) ?y10111 (by assumption) ?_
    case y10111 => intro w h; (try dsimp only at h); go_simp; try with_reducible rfl
    simp only [sE0, sE1]; refine take_to 11 20 (bQ 45 3587) (v := ?_) o147_2_11 rfl o147_2_ns (by kernel_rfl) (by kernel_rfl) (fun _ _ _ h => h) (by rfl) ?y11111 (by assumption) ?_
    case y11111 => intro w h; (try dsimp only at h); go_simp; try with_reducible rfl
    simp only [sE0, sE1]; refine take_to 18 27 (bQ 45 265731) (v := ?_) o147_2_18 rfl o147_2_ns (by kernel_rfl) (by kernel_rfl) (fun _ _ _ h => h) (by rfl) ?y18111 (by assumption) ?_
    case y18111 => intro w h; (try dsimp only at h); go_simp; try with_reducible rfl
    simp only [sE0, sE1]; refine take_to 19 28 (bQ 45 790019) (v := ?_) o147_2_19 rfl o147_2_ns (by kernel_rfl) (by kernel_rfl) (fun _ _ _ h => h) (by rfl) ?y19111 (by assumption) ?_
    case y19111 => intro w h; (try dsimp only at h); go_simp; try with_reducible rfl
    simp only [sE0, sE1]; refine take_to 32 41 (bQ 45 4295757315) (v := ?_) o147_2_32 rfl o147_2_ns (by kernel_rfl) (by kernel_rfl) (fun _ _ _ h => h) (by rfl) ?y32111 (by assumption) ?_
    case y32111 => intro w h; (try dsimp only at h); go_simp; try with_reducible rfl
    simp only [sE0, sE1]; refine take_to 33 42 (bQ 45 12885691907) (v := ?_) o147_2_33 rfl o147_2_ns (by kernel_rfl) (by kernel_rfl) (fun _ _ _ h => h) (by rfl) ?y33111 (by assumption) ?_
    case y33111 => intro w h; (try dsimp only at h); go_simp; try with_reducible rfl
    simp only [sE0, sE1]; refine take_to 36 45 (bQ 45 81605168643) (v := ?_) o147_2_36 rfl o147_2_ns (by kernel_rfl) (by kernel_rfl) (fun _ _ _ h => h) (by rfl) ?y36111 (by assumption) ?_
    case y36111 => intro w h; (try dsimp only at h); go_simp; try with_reducible rfl
    simp only [sE0, sE1]; refine take_to 39 48 (bQ 45 631360982531) (v := ?_) o147_2_39 rfl o147_2_ns (by kernel_rfl) (by kernel_rfl) (fun _ _ _ h => h) (by rfl) ?y39111 (by assumption) ?_
    case y39111 => intro w h; (try dsimp only at h); go_simp; try with_reducible rfl
    simp only [sE0, sE1]; refine take_to 40 49 (bQ 45 1730872610307) (v := ?_) o147_2_40 rfl o147_2_ns (by kernel_rfl) (by kernel_rfl) (fun _ _ _ h => h) (by rfl) ?y40111 (by assumption) ?_
    case y40111 => intro w h; (try dsimp only at h); go_simp; try with_reducible rfl
    simp only [sE0, sE1]; refine run_to 2 (bQ 45 1730872610311) o147_2_2 (by kernel_rfl) (by kernel_rfl) (by rfl) (fun K hK => ?_)
    go_simp; refine (key_calls _ _ (by omega)).mono ?_
    rintro e w' ⟨rfl, rfl⟩; rw [HK.out]; go_wp2_with fail
    refine hK.out _ _ ?_ (fun hHeld => ?_)
    ·(exact HS.out _ (by first | assumption | exact hHeld.1 | exact below_step hHeld.1 (by first | assumption | exact below_alloc _ _)))
    clear hK K; try simp only [Act.put, sEt, sE0, sE1]
    refine take_to 3 12 (bQ 45 1730872610319) (v := ?_) o147_2_3 rfl o147_2_ns (by kernel_rfl) (by kernel_rfl) (fun _ _ _ h => h) (by rfl) ?y3111 (by assumption) ?_
    case y3111 => intro w h; (try dsimp only at h); go_simp; try with_reducible rfl
    simp only [sE0, sE1]; refine take_to 4 13 (bQ 45 1730872610335) (v := ?_) o147_2_4 rfl o147_2_ns (by kernel_rfl) (by kernel_rfl) (fun _ _ _ h => h) (by rfl) ?y4111 (by assumption) ?_
    case y4111 => intro w h; (try dsimp only at h); go_simp; try with_reducible rfl
    simp only [sE0, sE1]; refine take_to 5 14 (bQ 45 1730872610367) (v := ?_) o147_2_5 rfl o147_2_ns (by kernel_rfl) (by kernel_rfl) (fun _ _ _ h => h) (by rfl) ?y5111 (by assumption) ?_
    case y5111 => intro w h; (try dsimp only at h); go_simp; try with_reducible rfl
    simp only [sE0, sE1]; refine run_to 6 (bQ 45 1730872610431) o147_2_6 (by kernel_rfl) (by kernel_rfl) (by rfl) (fun K hK => ?_)
    go_simp; refine (key_calls _ _ (by omega)).mono ?_
    rintro e w' ⟨rfl, rfl⟩; go_wp2_with fail
    refine hK.out _ _ ?_ (fun hHeld => ?_)
    ·(exact HS.out _ (by first | assumption | exact hHeld.1 | exact below_step hHeld.1 (by first | assumption | exact below_alloc _ _)))
    clear hK K; try simp only [Act.put, sEt, sE0, sE1]
    refine take_to 7 16 (bQ 45 1730872610559) (v := ?_) o147_2_7 rfl o147_2_ns (by kernel_rfl) (by kernel_rfl) (fun _ _ _ h => h) (by rfl) ?y7111 (by assumption) ?_
    case y7111 => intro w h; (try dsimp only at h); go_simp; try with_reducible rfl
    simp only [sE0, sE1]; refine run_to 8 (bQ 45 1730872610815) o147_2_8 (by kernel_rfl) (by kernel_rfl) (by rfl) (fun K hK => ?_)
    go_simp; refine (unless_calls _ _ _).mono ?_; rintro e w' ⟨rfl, rfl⟩; go_wp2_with fail
    refine hK.out _ _ ?_ (fun hHeld => ?_)
    ·(exact HS.out _ (by first | assumption | exact hHeld.1 | exact below_step hHeld.1 (by first | assumption | exact below_alloc _ _)))
    clear hK K; try simp only [Act.put, sEt, sE0, sE1]
    refine take_to 12 21 (bQ 45 1730872614911) (v := ?_) o147_2_12 rfl o147_2_ns (by kernel_rfl) (by kernel_rfl) (fun _ _ _ h => h) (by rfl) ?y12111 (by assumption) ?_
    case y12111 => intro w h; (try dsimp only at h); go_simp; try with_reducible rfl
    simp only [sE0, sE1]; refine skip_to 13 22 (bQ 45 1730872623103) o147_2_13 rfl o147_2_ns (by kernel_rfl) (by kernel_rfl) (fun _ _ _ h => h) (by rfl) (by assumption) ?_
    simp only [sE0, sE1]; refine skip_to 14 23 (bQ 45 1730872639487) o147_2_14 rfl o147_2_ns (by kernel_rfl) (by kernel_rfl) (fun _ _ _ h => h) (by rfl) (by assumption) ?_
    simp only [sE0, sE1]; refine skip_to 15 24 (bQ 45 1730872672255) o147_2_15 rfl o147_2_ns (by kernel_rfl) (by kernel_rfl) (fun _ _ _ h => h) (by rfl) (by assumption) ?_
    simp only [sE0, sE1]; refine take_to 16 25 (bQ 45 1730872737791) (v := ?_) o147_2_16 rfl o147_2_ns (by kernel_rfl) (by kernel_rfl) (fun _ _ _ h => h) (by rfl) ?y16111 (by assumption) ?_
    case y16111 => intro w h; (try dsimp only at h); go_simp; try with_reducible rfl
    simp only [sE0, sE1]; refine run_to 17 (bQ 45 1730872868863) o147_2_17 (by kernel_rfl) (by kernel_rfl) (by rfl) (fun K hK => ?_)
    go_simp; refine (unless_calls _ _ _).mono ?_; rintro e w' ⟨rfl, rfl⟩; go_wp2_with fail
    refine hK.out _ _ ?_ (fun hHeld => ?_)
    ·(exact HS.out _ (by first | assumption | exact hHeld.1 | exact below_step hHeld.1 (by first | assumption | exact below_alloc _ _)))
    clear hK K; try simp only [Act.put, sEt, sE0, sE1]
    refine take_to 20 29 (bQ 45 1730873917439) (v := ?_) o147_2_20 rfl o147_2_ns (by kernel_rfl) (by kernel_rfl) (fun _ _ _ h => h) (by rfl) ?y20111 (by assumption) ?_
    case y20111 => intro w h; (try dsimp only at h); go_simp; try with_reducible rfl
    simp only [sE0, sE1]; refine skip_to 21 30 (bQ 45 1730876014591) o147_2_21 rfl o147_2_ns (by kernel_rfl) (by kernel_rfl) (fun _ _ _ h => h) (by rfl) (by assumption) ?_
    simp only [sE0, sE1]; refine skip_to 22 31 (bQ 45 1730880208895) o147_2_22 rfl o147_2_ns (by kernel_rfl) (by kernel_rfl) (fun _ _ _ h => h) (by rfl) (by assumption) ?_
    simp only [sE0, sE1]; refine skip_to 23 32 (bQ 45 1730888597503) o147_2_23 rfl o147_2_ns (by kernel_rfl) (by kernel_rfl) (fun _ _ _ h => h) (by rfl) (by assumption) ?_
    simp only [sE0, sE1]; refine skip_to 24 33 (bQ 45 1730905374719) o147_2_24 rfl o147_2_ns (by kernel_rfl) (by kernel_rfl) (fun _ _ _ h => h) (by rfl) (by assumption) ?_
    simp only [sE0, sE1]; refine skip_to 25 34 (bQ 45 1730938929151) o147_2_25 rfl o147_2_ns (by kernel_rfl) (by kernel_rfl) (fun _ _ _ h => h) (by rfl) (by assumption) ?_
    simp only [sE0, sE1]; refine skip_to 26 35 (bQ 45 1731006038015) o147_2_26 rfl o147_2_ns (by kernel_rfl) (by kernel_rfl) (fun _ _ _ h => h) (by rfl) (by assumption) ?_
    simp only [sE0, sE1]; refine skip_to 27 36 (bQ 45 1731140255743) o147_2_27 rfl o147_2_ns (by kernel_rfl) (by kernel_rfl) (fun _ _ _ h => h) (by rfl) (by assumption) ?_
    simp only [sE0, sE1]; refine skip_to 28 37 (bQ 45 1731408691199) o147_2_28 rfl o147_2_ns (by kernel_rfl) (by kernel_rfl) (fun _ _ _ h => h) (by rfl) (by assumption) ?_
    simp only [sE0, sE1]; refine skip_to 29 38 (bQ 45 1731945562111) o147_2_29 rfl o147_2_ns (by kernel_rfl) (by kernel_rfl) (fun _ _ _ h => h) (by rfl) (by assumption) ?_
    simp only [sE0, sE1]; refine take_to 30 39 (bQ 45 1733019303935) (v := ?_) o147_2_30 rfl o147_2_ns (by kernel_rfl) (by kernel_rfl) (fun _ _ _ h => h) (by rfl) ?y30111 (by assumption) ?_
    case y30111 => intro w h; (try dsimp only at h); go_simp; try with_reducible rfl
    simp only [sE0, sE1]; refine run_to 31 (bQ 45 1735166787583) o147_2_31 (by kernel_rfl) (by kernel_rfl) (by rfl) (fun K hK => ?_)
    go_simp; refine (unless_calls _ _ _).mono ?_; rintro e w' ⟨rfl, rfl⟩; go_wp2_with fail
    refine hK.out _ _ ?_ (fun hHeld => ?_)
    ·(exact HS.out _ (by first | assumption | exact hHeld.1 | exact below_step hHeld.1 (by first | assumption | exact below_alloc _ _)))
    clear hK K; try simp only [Act.put, sEt, sE0, sE1]
    refine run_to 34 (bQ 45 1752346656767) o147_2_34 (by kernel_rfl) (by kernel_rfl) (by rfl) (fun K hK => ?_)
    go_simp; refine (between_calls _ 1 4 _).mono ?_; rintro e w' ⟨rfl, rfl⟩; go_wp2_with fail
    refine hK.out _ _ ?_ (fun hHeld => ?_)
    ·(exact HS.out _ (by first | assumption | exact hHeld.1 | exact below_step hHeld.1 (by first | assumption | exact below_alloc _ _)))
    clear hK K; try simp only [Act.put, sEt, sE0, sE1]
    refine run_to 35 (bQ 45 1786706395135) o147_2_35 (by kernel_rfl) (by kernel_rfl) (by rfl) (fun K hK => ?_)
    go_simp; refine (unless_calls _ _ _).mono ?_; rintro e w' ⟨rfl, rfl⟩; go_wp2_with fail
    refine hK.out _ _ ?_ (fun hHeld => ?_)
    ·(exact HS.out _ (by first | assumption | exact hHeld.1 | exact below_step hHeld.1 (by first | assumption | exact below_alloc _ _)))
    clear hK K; try simp only [Act.put, sEt, sE0, sE1]
    refine run_to 37 (bQ 45 1924145348607) o147_2_37 (by kernel_rfl) (by kernel_rfl) (by rfl) (fun K hK => ?_)
    go_simp; refine (manyFits_calls r _).mono ?_; rintro e w' ⟨rfl, hb⟩; go_wp2_with fail
    refine hK.out _ _ ?_ (fun hHeld => ?_)
    ·(exact HS.out _ (by first | assumption | exact hHeld.1 | exact below_step hHeld.1 (by first | assumption | exact below_alloc _ _)))
    clear hK K; try simp only [Act.put, sEt, sE0, sE1]
    refine run_to 38 (bQ 45 2199023255551) o147_2_38 (by kernel_rfl) (by kernel_rfl) (by rfl) (fun K hK => ?_)
    go_simp; refine (unless_calls _ _ _).mono ?_; rintro e w' ⟨rfl, rfl⟩; go_wp2_with fail
    refine hK.out _ _ ?_ (fun hHeld => ?_)
    ·(exact HS.out _ (by first | assumption | exact hHeld.1 | exact below_step hHeld.1 (by first | assumption | exact below_alloc _ _)))
    clear hK K; try simp only [Act.put, sEt, sE0, sE1]
    refine run_to 41 (bQ 45 4398046511103) o147_2_41 (by kernel_rfl) (by kernel_rfl) (by rfl) (fun K hK => ?_)
    go_simp; refine (wrong_calls r.num r.den _ H6.out H7.out).mono ?_; rintro e w' ⟨rfl, hb⟩; go_wp2_with fail
    refine hK.out _ _ ?_ (fun hHeld => ?_)
    ·(exact HS.out _ (by first | assumption | exact hHeld.1 | exact below_step hHeld.1 (by first | assumption | exact below_alloc _ _)))
    clear hK K; try simp only [Act.put, sEt, sE0, sE1]
    refine run_to 42 (bQ 45 8796093022207) o147_2_42 (by kernel_rfl) (by kernel_rfl) (by rfl) (fun K hK => ?_)
    go_simp; refine hK.out _ _ ?_ (fun hHeld => ?_)
    ·(exact HS.out _ (by first | assumption | exact hHeld.1 | exact below_step hHeld.1 (by first | assumption | exact below_alloc _ _)))
    clear hK K; try simp only [Act.put, sEt, sE0, sE1]
    refine run_to 43 (bQ 45 17592186044415) o147_2_43 (by kernel_rfl) (by kernel_rfl) (by rfl) (fun K hK => ?_)
    go_simp; refine (orE_calls _ 0 6 [unlessE (keyB r.stat) 5, unlessE true 5, unlessE true 7, unlessE (betwB r.kind 1 4) 4, unlessE (manyB r.kind r.many) 1, wrongF r.num r.den 10000] _ (by simp) (by exact nums6 _ _ _ _ _ _ _ _)).mono ?_
    rintro e w' ⟨rfl, rfl⟩; go_wp2_with fail
    refine hK.out _ _ ?_ (fun hHeld => ?_)
    ·(exact HS.out _ (by first | assumption | exact hHeld.1 | exact below_step hHeld.1 (by first | assumption | exact below_alloc _ _)))
    clear hK K; try simp only [Act.put, sEt, sE0, sE1]
    refine take_to 44 3 (bQ 45 35184372088831) (v := ?_) o147_2_44 rfl o147_2_ns (by kernel_rfl) (by kernel_rfl) (fun _ _ _ h => h) (by rfl) ?y44111 (by assumption) ?_
    case y44111 => intro w h; (try dsimp only at h); go_simp; try with_reducible rfl
    simp only [sE0, sE1]; refine wpAnyH_done (by kernel_rfl) ?_ _
    go_wp2_with fail
    go_ret
    exact ⟨ret_int Hr.out.symm, below_step hwW hHeld.1⟩
   ·have ep : r.pos.toList.isEmpty = false := by rw [HE.out]; simp [hp]
    have Hr := Lib.hid (show rlF rs i = firstE [unlessE (keyB r.stat) 5, unlessE (keyB r.pos) 5, unlessE true 7, unlessE (betwB r.kind 1 4) 4, unlessE (manyB r.kind r.many) 1, wrongF r.num r.den 10000] by rw [rlF, rlAt_some hi]; simp [hp, HK.out, hz])
    clear hk hp hi hz c1 x0 x1 x2 x3 x4 x5 x6 hR hcell HS0; go_enter Tryz.func147, Tryz.ntmps147; go_upto_region 2 with fail
    rw [← hW]; clear hW; show Code.wp _ (Code.region 2 o147_2 true) _ _ _
    refine region_start 45 (fun w' => Below W.heap.size W w' ∧ w'.cell? ⟨c, 0, none⟩ = some (.slice (some ⟨g, off, none⟩) rs.length cap) ∧ w'.cell? ⟨w.heap.size, 0, none⟩ = some (.string r.key) ∧ w'.cell? ⟨w.heap.size, 1, none⟩ = some (.string r.stat) ∧ w'.cell? ⟨w.heap.size, 2, none⟩ = some (.string r.pos) ∧ w'.cell? ⟨w.heap.size, 3, none⟩ = some (.int .i64 r.kind) ∧ w'.cell? ⟨w.heap.size, 4, none⟩ = some (.int .i64 r.many) ∧ w'.cell? ⟨w.heap.size, 5, none⟩ = some (.int .i64 r.num) ∧ w'.cell? ⟨w.heap.size, 6, none⟩ = some (.int .i64 r.den)) (by kernel_rfl) rfl ?_ (fun hHeld => ?_)
    ·(exact HS.out _ (by first | assumption | exact hHeld.1 | exact below_step hHeld.1 (by first | assumption | exact below_alloc _ _)))
    refine take_to 0 9 (bQ 45 1) (v := ?_) o147_2_0 rfl o147_2_ns (by kernel_rfl) (by kernel_rfl) (fun _ _ _ h => h) (by rfl) ?y0110 (by assumption) ?_
    case y0110 => intro w h; (try dsimp only at h); go_simp; try with_reducible rfl
    simp only [sE0, sE1]; refine take_to 1 10 (bQ 45 3) (v := ?_) o147_2_1 rfl o147_2_ns (by kernel_rfl) (by kernel_rfl) (fun _ _ _ h => h) (by rfl) ?y1110 (by assumption) ?_
    case y1110 => intro w h; (try dsimp only at h); go_simp; try with_reducible rfl
    simp only [sE0, sE1]; refine take_to 9 18 (bQ 45 515) (v := ?_) o147_2_9 rfl o147_2_ns (by kernel_rfl) (by kernel_rfl) (fun _ _ _ h => h) (by rfl) ?y9110 (by assumption) ?_
    case y9110 => intro w h; (try dsimp only at h); go_simp; try with_reducible rfl
    simp only [sE0, sE1]; refine take_to 10 19 (bQ 45 1539) (v := ?_) o147_2_10 rfl o147_2_ns (by kernel_rfl) (by kernel_rfl) (fun _ _ _ h => h) (by rfl) ?y10110 (by assumption) ?_
    case y10110 => intro w h; (try dsimp only at h); go_simp; try with_reducible rfl
    simp only [sE0, sE1]; refine take_to 11 20 (bQ 45 3587) (v := ?_) o147_2_11 rfl o147_2_ns (by kernel_rfl) (by kernel_rfl) (fun _ _ _ h => h) (by rfl) ?y11110 (by assumption) ?_
    case y11110 => intro w h; (try dsimp only at h); go_simp; try with_reducible rfl
    simp only [sE0, sE1]; refine take_to 18 27 (bQ 45 265731) (v := ?_) o147_2_18 rfl o147_2_ns (by kernel_rfl) (by kernel_rfl) (fun _ _ _ h => h) (by rfl) ?y18110 (by assumption) ?_
    case y18110 => intro w h; (try dsimp only at h); go_simp; try with_reducible rfl
    simp only [sE0, sE1]; refine take_to 19 28 (bQ 45 790019) (v := ?_) o147_2_19 rfl o147_2_ns (by kernel_rfl) (by kernel_rfl) (fun _ _ _ h => h) (by rfl) ?y19110 (by assumption) ?_
    case y19110 => intro w h; (try dsimp only at h); go_simp; try with_reducible rfl
    simp only [sE0, sE1]; refine take_to 32 41 (bQ 45 4295757315) (v := ?_) o147_2_32 rfl o147_2_ns (by kernel_rfl) (by kernel_rfl) (fun _ _ _ h => h) (by rfl) ?y32110 (by assumption) ?_
    case y32110 => intro w h; (try dsimp only at h); go_simp; try with_reducible rfl
    simp only [sE0, sE1]; refine take_to 33 42 (bQ 45 12885691907) (v := ?_) o147_2_33 rfl o147_2_ns (by kernel_rfl) (by kernel_rfl) (fun _ _ _ h => h) (by rfl) ?y33110 (by assumption) ?_
    case y33110 => intro w h; (try dsimp only at h); go_simp; try with_reducible rfl
    simp only [sE0, sE1]; refine take_to 36 45 (bQ 45 81605168643) (v := ?_) o147_2_36 rfl o147_2_ns (by kernel_rfl) (by kernel_rfl) (fun _ _ _ h => h) (by rfl) ?y36110 (by assumption) ?_
    case y36110 => intro w h; (try dsimp only at h); go_simp; try with_reducible rfl
    simp only [sE0, sE1]; refine take_to 39 48 (bQ 45 631360982531) (v := ?_) o147_2_39 rfl o147_2_ns (by kernel_rfl) (by kernel_rfl) (fun _ _ _ h => h) (by rfl) ?y39110 (by assumption) ?_
    case y39110 => intro w h; (try dsimp only at h); go_simp; try with_reducible rfl
    simp only [sE0, sE1]; refine take_to 40 49 (bQ 45 1730872610307) (v := ?_) o147_2_40 rfl o147_2_ns (by kernel_rfl) (by kernel_rfl) (fun _ _ _ h => h) (by rfl) ?y40110 (by assumption) ?_
    case y40110 => intro w h; (try dsimp only at h); go_simp; try with_reducible rfl
    simp only [sE0, sE1]; refine run_to 2 (bQ 45 1730872610311) o147_2_2 (by kernel_rfl) (by kernel_rfl) (by rfl) (fun K hK => ?_)
    go_simp; refine (key_calls _ _ (by omega)).mono ?_
    rintro e w' ⟨rfl, rfl⟩; rw [HK.out]; go_wp2_with fail
    refine hK.out _ _ ?_ (fun hHeld => ?_)
    ·(exact HS.out _ (by first | assumption | exact hHeld.1 | exact below_step hHeld.1 (by first | assumption | exact below_alloc _ _)))
    clear hK K; try simp only [Act.put, sEt, sE0, sE1]
    refine take_to 3 12 (bQ 45 1730872610319) (v := ?_) o147_2_3 rfl o147_2_ns (by kernel_rfl) (by kernel_rfl) (fun _ _ _ h => h) (by rfl) ?y3110 (by assumption) ?_
    case y3110 => intro w h; (try dsimp only at h); go_simp; try with_reducible rfl
    simp only [sE0, sE1]; refine take_to 4 13 (bQ 45 1730872610335) (v := ?_) o147_2_4 rfl o147_2_ns (by kernel_rfl) (by kernel_rfl) (fun _ _ _ h => h) (by rfl) ?y4110 (by assumption) ?_
    case y4110 => intro w h; (try dsimp only at h); go_simp; try with_reducible rfl
    simp only [sE0, sE1]; refine take_to 5 14 (bQ 45 1730872610367) (v := ?_) o147_2_5 rfl o147_2_ns (by kernel_rfl) (by kernel_rfl) (fun _ _ _ h => h) (by rfl) ?y5110 (by assumption) ?_
    case y5110 => intro w h; (try dsimp only at h); go_simp; try with_reducible rfl
    simp only [sE0, sE1]; refine run_to 6 (bQ 45 1730872610431) o147_2_6 (by kernel_rfl) (by kernel_rfl) (by rfl) (fun K hK => ?_)
    go_simp; refine (key_calls _ _ (by omega)).mono ?_
    rintro e w' ⟨rfl, rfl⟩; go_wp2_with fail
    refine hK.out _ _ ?_ (fun hHeld => ?_)
    ·(exact HS.out _ (by first | assumption | exact hHeld.1 | exact below_step hHeld.1 (by first | assumption | exact below_alloc _ _)))
    clear hK K; try simp only [Act.put, sEt, sE0, sE1]
    refine take_to 7 16 (bQ 45 1730872610559) (v := ?_) o147_2_7 rfl o147_2_ns (by kernel_rfl) (by kernel_rfl) (fun _ _ _ h => h) (by rfl) ?y7110 (by assumption) ?_
    case y7110 => intro w h; (try dsimp only at h); go_simp; try with_reducible rfl
    simp only [sE0, sE1]; refine run_to 8 (bQ 45 1730872610815) o147_2_8 (by kernel_rfl) (by kernel_rfl) (by rfl) (fun K hK => ?_)
    go_simp; refine (unless_calls _ _ _).mono ?_; rintro e w' ⟨rfl, rfl⟩; go_wp2_with fail
    refine hK.out _ _ ?_ (fun hHeld => ?_)
    ·(exact HS.out _ (by first | assumption | exact hHeld.1 | exact below_step hHeld.1 (by first | assumption | exact below_alloc _ _)))
    clear hK K; try simp only [Act.put, sEt, sE0, sE1]
    refine take_to 12 21 (bQ 45 1730872614911) (v := ?_) o147_2_12 rfl o147_2_ns (by kernel_rfl) (by kernel_rfl) (fun _ _ _ h => h) (by rfl) ?y12110 (by assumption) ?_
    case y12110 => intro w h; (try dsimp only at h); go_simp; try with_reducible rfl
    simp only [sE0, sE1]; refine take_to 13 22 (bQ 45 1730872623103) (v := ?_) o147_2_13 rfl o147_2_ns (by kernel_rfl) (by kernel_rfl) (fun _ _ _ h => h) (by rfl) ?y13110 (by assumption) ?_
    case y13110 => intro w h; (try dsimp only at h); go_simp; try with_reducible rfl
    simp only [sE0, sE1]; refine take_to 14 23 (bQ 45 1730872639487) (v := ?_) o147_2_14 rfl o147_2_ns (by kernel_rfl) (by kernel_rfl) (fun _ _ _ h => h) (by rfl) ?y14110 (by assumption) ?_
    case y14110 => intro w h; (try dsimp only at h); go_simp; try with_reducible rfl
    simp only [sE0, sE1]; refine run_to 15 (bQ 45 1730872672255) o147_2_15 (by kernel_rfl) (by kernel_rfl) (by rfl) (fun K hK => ?_)
    go_simp; refine (key_calls _ _ (by omega)).mono ?_
    rintro e w' ⟨rfl, rfl⟩; go_wp2_with fail
    refine hK.out _ _ ?_ (fun hHeld => ?_)
    ·(exact HS.out _ (by first | assumption | exact hHeld.1 | exact below_step hHeld.1 (by first | assumption | exact below_alloc _ _)))
    clear hK K; try simp only [Act.put, sEt, sE0, sE1]
    refine take_to 16 25 (bQ 45 1730872737791) (v := ?_) o147_2_16 rfl o147_2_ns (by kernel_rfl) (by kernel_rfl) (fun _ _ _ h => h) (by rfl) ?y16110 (by assumption) ?_
    case y16110 => intro w h; (try dsimp only at h); go_simp; try with_reducible rfl
    simp only [sE0, sE1]; refine run_to 17 (bQ 45 1730872868863) o147_2_17 (by kernel_rfl) (by kernel_rfl) (by rfl) (fun K hK => ?_)
    go_simp; refine (unless_calls _ _ _).mono ?_; rintro e w' ⟨rfl, rfl⟩; go_wp2_with fail
    refine hK.out _ _ ?_ (fun hHeld => ?_)
    ·(exact HS.out _ (by first | assumption | exact hHeld.1 | exact below_step hHeld.1 (by first | assumption | exact below_alloc _ _)))
    clear hK K; try simp only [Act.put, sEt, sE0, sE1]
    refine take_to 20 29 (bQ 45 1730873917439) (v := ?_) o147_2_20 rfl o147_2_ns (by kernel_rfl) (by kernel_rfl) (fun _ _ _ h => h) (by rfl) ?y20110 (by assumption) ?_
    case y20110 => intro w h; (try dsimp only at h); go_simp; try with_reducible rfl
    simp only [sE0, sE1]; refine skip_to 21 30 (bQ 45 1730876014591) o147_2_21 rfl o147_2_ns (by kernel_rfl) (by kernel_rfl) (fun _ _ _ h => h) (by rfl) (by assumption) ?_
    simp only [sE0, sE1]; refine skip_to 22 31 (bQ 45 1730880208895) o147_2_22 rfl o147_2_ns (by kernel_rfl) (by kernel_rfl) (fun _ _ _ h => h) (by rfl) (by assumption) ?_
    simp only [sE0, sE1]; refine skip_to 23 32 (bQ 45 1730888597503) o147_2_23 rfl o147_2_ns (by kernel_rfl) (by kernel_rfl) (fun _ _ _ h => h) (by rfl) (by assumption) ?_
    simp only [sE0, sE1]; refine skip_to 24 33 (bQ 45 1730905374719) o147_2_24 rfl o147_2_ns (by kernel_rfl) (by kernel_rfl) (fun _ _ _ h => h) (by rfl) (by assumption) ?_
    simp only [sE0, sE1]; refine skip_to 25 34 (bQ 45 1730938929151) o147_2_25 rfl o147_2_ns (by kernel_rfl) (by kernel_rfl) (fun _ _ _ h => h) (by rfl) (by assumption) ?_
    simp only [sE0, sE1]; refine skip_to 26 35 (bQ 45 1731006038015) o147_2_26 rfl o147_2_ns (by kernel_rfl) (by kernel_rfl) (fun _ _ _ h => h) (by rfl) (by assumption) ?_
    simp only [sE0, sE1]; refine skip_to 27 36 (bQ 45 1731140255743) o147_2_27 rfl o147_2_ns (by kernel_rfl) (by kernel_rfl) (fun _ _ _ h => h) (by rfl) (by assumption) ?_
    simp only [sE0, sE1]; refine skip_to 28 37 (bQ 45 1731408691199) o147_2_28 rfl o147_2_ns (by kernel_rfl) (by kernel_rfl) (fun _ _ _ h => h) (by rfl) (by assumption) ?_
    simp only [sE0, sE1]; refine skip_to 29 38 (bQ 45 1731945562111) o147_2_29 rfl o147_2_ns (by kernel_rfl) (by kernel_rfl) (fun _ _ _ h => h) (by rfl) (by assumption) ?_
    simp only [sE0, sE1]; refine take_to 30 39 (bQ 45 1733019303935) (v := ?_) o147_2_30 rfl o147_2_ns (by kernel_rfl) (by kernel_rfl) (fun _ _ _ h => h) (by rfl) ?y30110 (by assumption) ?_
    case y30110 => intro w h; (try dsimp only at h); go_simp; try with_reducible rfl
    simp only [sE0, sE1]; refine run_to 31 (bQ 45 1735166787583) o147_2_31 (by kernel_rfl) (by kernel_rfl) (by rfl) (fun K hK => ?_)
    go_simp; refine (unless_calls _ _ _).mono ?_; rintro e w' ⟨rfl, rfl⟩; go_wp2_with fail
    refine hK.out _ _ ?_ (fun hHeld => ?_)
    ·(exact HS.out _ (by first | assumption | exact hHeld.1 | exact below_step hHeld.1 (by first | assumption | exact below_alloc _ _)))
    clear hK K; try simp only [Act.put, sEt, sE0, sE1]
    refine run_to 34 (bQ 45 1752346656767) o147_2_34 (by kernel_rfl) (by kernel_rfl) (by rfl) (fun K hK => ?_)
    go_simp; refine (between_calls _ 1 4 _).mono ?_; rintro e w' ⟨rfl, rfl⟩; go_wp2_with fail
    refine hK.out _ _ ?_ (fun hHeld => ?_)
    ·(exact HS.out _ (by first | assumption | exact hHeld.1 | exact below_step hHeld.1 (by first | assumption | exact below_alloc _ _)))
    clear hK K; try simp only [Act.put, sEt, sE0, sE1]
    refine run_to 35 (bQ 45 1786706395135) o147_2_35 (by kernel_rfl) (by kernel_rfl) (by rfl) (fun K hK => ?_)
    go_simp; refine (unless_calls _ _ _).mono ?_; rintro e w' ⟨rfl, rfl⟩; go_wp2_with fail
    refine hK.out _ _ ?_ (fun hHeld => ?_)
    ·(exact HS.out _ (by first | assumption | exact hHeld.1 | exact below_step hHeld.1 (by first | assumption | exact below_alloc _ _)))
    clear hK K; try simp only [Act.put, sEt, sE0, sE1]
    refine run_to 37 (bQ 45 1924145348607) o147_2_37 (by kernel_rfl) (by kernel_rfl) (by rfl) (fun K hK => ?_)
    go_simp; refine (manyFits_calls r _).mono ?_; rintro e w' ⟨rfl, hb⟩; go_wp2_with fail
    refine hK.out _ _ ?_ (fun hHeld => ?_)
    ·(exact HS.out _ (by first | assumption | exact hHeld.1 | exact below_step hHeld.1 (by first | assumption | exact below_alloc _ _)))
    clear hK K; try simp only [Act.put, sEt, sE0, sE1]
    refine run_to 38 (bQ 45 2199023255551) o147_2_38 (by kernel_rfl) (by kernel_rfl) (by rfl) (fun K hK => ?_)
    go_simp; refine (unless_calls _ _ _).mono ?_; rintro e w' ⟨rfl, rfl⟩; go_wp2_with fail
    refine hK.out _ _ ?_ (fun hHeld => ?_)
    ·(exact HS.out _ (by first | assumption | exact hHeld.1 | exact below_step hHeld.1 (by first | assumption | exact below_alloc _ _)))
    clear hK K; try simp only [Act.put, sEt, sE0, sE1]
    refine run_to 41 (bQ 45 4398046511103) o147_2_41 (by kernel_rfl) (by kernel_rfl) (by rfl) (fun K hK => ?_)
    go_simp; refine (wrong_calls r.num r.den _ H6.out H7.out).mono ?_; rintro e w' ⟨rfl, hb⟩; go_wp2_with fail
    refine hK.out _ _ ?_ (fun hHeld => ?_)
    ·(exact HS.out _ (by first | assumption | exact hHeld.1 | exact below_step hHeld.1 (by first | assumption | exact below_alloc _ _)))
    clear hK K; try simp only [Act.put, sEt, sE0, sE1]
    refine run_to 42 (bQ 45 8796093022207) o147_2_42 (by kernel_rfl) (by kernel_rfl) (by rfl) (fun K hK => ?_)
    go_simp; refine hK.out _ _ ?_ (fun hHeld => ?_)
    ·(exact HS.out _ (by first | assumption | exact hHeld.1 | exact below_step hHeld.1 (by first | assumption | exact below_alloc _ _)))
    clear hK K; try simp only [Act.put, sEt, sE0, sE1]
    refine run_to 43 (bQ 45 17592186044415) o147_2_43 (by kernel_rfl) (by kernel_rfl) (by rfl) (fun K hK => ?_)
    go_simp; refine (orE_calls _ 0 6 [unlessE (keyB r.stat) 5, unlessE (keyB r.pos) 5, unlessE true 7, unlessE (betwB r.kind 1 4) 4, unlessE (manyB r.kind r.many) 1, wrongF r.num r.den 10000] _ (by simp) (by exact nums6 _ _ _ _ _ _ _ _)).mono ?_
    rintro e w' ⟨rfl, rfl⟩; go_wp2_with fail
    refine hK.out _ _ ?_ (fun hHeld => ?_)
    ·(exact HS.out _ (by first | assumption | exact hHeld.1 | exact below_step hHeld.1 (by first | assumption | exact below_alloc _ _)))
    clear hK K; try simp only [Act.put, sEt, sE0, sE1]
    refine take_to 44 3 (bQ 45 35184372088831) (v := ?_) o147_2_44 rfl o147_2_ns (by kernel_rfl) (by kernel_rfl) (fun _ _ _ h => h) (by rfl) ?y44110 (by assumption) ?_
    case y44110 => intro w h; (try dsimp only at h); go_simp; try with_reducible rfl
    simp only [sE0, sE1]; refine wpAnyH_done (by kernel_rfl) ?_ _
    go_wp2_with fail
    go_ret
    exact ⟨ret_int Hr.out.symm, below_step hwW hHeld.1⟩
  ·have HK := Lib.hid (show keyB r.key = false from by simpa using hk)
   by_cases hp : r.pos.size = 0
   ·have ep : r.pos.toList.isEmpty = true := by rw [HE.out]; simp [hp]
    have Hr := Lib.hid (show rlF rs i = firstE [unlessE false 5, unlessE true 5, unlessE true 7, unlessE (betwB r.kind 1 4) 4, unlessE (manyB r.kind r.many) 1, wrongF r.num r.den 10000] by rw [rlF, rlAt_some hi]; simp [hp, HK.out, hz])
    clear hk hp hi hz c1 x0 x1 x2 x3 x4 x5 x6 hR hcell HS0; go_enter Tryz.func147, Tryz.ntmps147; go_upto_region 2 with fail
    rw [← hW]; clear hW; show Code.wp _ (Code.region 2 o147_2 true) _ _ _
    refine region_start 45 (fun w' => Below W.heap.size W w' ∧ w'.cell? ⟨c, 0, none⟩ = some (.slice (some ⟨g, off, none⟩) rs.length cap) ∧ w'.cell? ⟨w.heap.size, 0, none⟩ = some (.string r.key) ∧ w'.cell? ⟨w.heap.size, 1, none⟩ = some (.string r.stat) ∧ w'.cell? ⟨w.heap.size, 2, none⟩ = some (.string r.pos) ∧ w'.cell? ⟨w.heap.size, 3, none⟩ = some (.int .i64 r.kind) ∧ w'.cell? ⟨w.heap.size, 4, none⟩ = some (.int .i64 r.many) ∧ w'.cell? ⟨w.heap.size, 5, none⟩ = some (.int .i64 r.num) ∧ w'.cell? ⟨w.heap.size, 6, none⟩ = some (.int .i64 r.den)) (by kernel_rfl) rfl ?_ (fun hHeld => ?_)
    ·(exact HS.out _ (by first | assumption | exact hHeld.1 | exact below_step hHeld.1 (by first | assumption | exact below_alloc _ _)))
    refine take_to 0 9 (bQ 45 1) (v := ?_) o147_2_0 rfl o147_2_ns (by kernel_rfl) (by kernel_rfl) (fun _ _ _ h => h) (by rfl) ?y0101 (by assumption) ?_
    case y0101 => intro w h; (try dsimp only at h); go_simp; try with_reducible rfl
    simp only [sE0, sE1]; refine take_to 1 10 (bQ 45 3) (v := ?_) o147_2_1 rfl o147_2_ns (by kernel_rfl) (by kernel_rfl) (fun _ _ _ h => h) (by rfl) ?y1101 (by assumption) ?_
    case y1101 => intro w h; (try dsimp only at h); go_simp; try with_reducible rfl
    simp only [sE0, sE1]; refine take_to 9 18 (bQ 45 515) (v := ?_) o147_2_9 rfl o147_2_ns (by kernel_rfl) (by kernel_rfl) (fun _ _ _ h => h) (by rfl) ?y9101 (by assumption) ?_
    case y9101 => intro w h; (try dsimp only at h); go_simp; try with_reducible rfl
    simp only [sE0, sE1]; refine take_to 10 19 (bQ 45 1539) (v := ?_) o147_2_10 rfl o147_2_ns (by kernel_rfl) (by kernel_rfl) (fun _ _ _ h => h) (by rfl) ?y10101 (by assumption) ?_
    case y10101 => intro w h; (try dsimp only at h); go_simp; try with_reducible rfl
    simp only [sE0, sE1]; refine take_to 11 20 (bQ 45 3587) (v := ?_) o147_2_11 rfl o147_2_ns (by kernel_rfl) (by kernel_rfl) (fun _ _ _ h => h) (by rfl) ?y11101 (by assumption) ?_
    case y11101 => intro w h; (try dsimp only at h); go_simp; try with_reducible rfl
    simp only [sE0, sE1]; refine take_to 18 27 (bQ 45 265731) (v := ?_) o147_2_18 rfl o147_2_ns (by kernel_rfl) (by kernel_rfl) (fun _ _ _ h => h) (by rfl) ?y18101 (by assumption) ?_
    case y18101 => intro w h; (try dsimp only at h); go_simp; try with_reducible rfl
    simp only [sE0, sE1]; refine take_to 19 28 (bQ 45 790019) (v := ?_) o147_2_19 rfl o147_2_ns (by kernel_rfl) (by kernel_rfl) (fun _ _ _ h => h) (by rfl) ?y19101 (by assumption) ?_
    case y19101 => intro w h; (try dsimp only at h); go_simp; try with_reducible rfl
    simp only [sE0, sE1]; refine take_to 32 41 (bQ 45 4295757315) (v := ?_) o147_2_32 rfl o147_2_ns (by kernel_rfl) (by kernel_rfl) (fun _ _ _ h => h) (by rfl) ?y32101 (by assumption) ?_
    case y32101 => intro w h; (try dsimp only at h); go_simp; try with_reducible rfl
    simp only [sE0, sE1]; refine take_to 33 42 (bQ 45 12885691907) (v := ?_) o147_2_33 rfl o147_2_ns (by kernel_rfl) (by kernel_rfl) (fun _ _ _ h => h) (by rfl) ?y33101 (by assumption) ?_
    case y33101 => intro w h; (try dsimp only at h); go_simp; try with_reducible rfl
    simp only [sE0, sE1]; refine take_to 36 45 (bQ 45 81605168643) (v := ?_) o147_2_36 rfl o147_2_ns (by kernel_rfl) (by kernel_rfl) (fun _ _ _ h => h) (by rfl) ?y36101 (by assumption) ?_
    case y36101 => intro w h; (try dsimp only at h); go_simp; try with_reducible rfl
    simp only [sE0, sE1]; refine take_to 39 48 (bQ 45 631360982531) (v := ?_) o147_2_39 rfl o147_2_ns (by kernel_rfl) (by kernel_rfl) (fun _ _ _ h => h) (by rfl) ?y39101 (by assumption) ?_
    case y39101 => intro w h; (try dsimp only at h); go_simp; try with_reducible rfl
    simp only [sE0, sE1]; refine take_to 40 49 (bQ 45 1730872610307) (v := ?_) o147_2_40 rfl o147_2_ns (by kernel_rfl) (by kernel_rfl) (fun _ _ _ h => h) (by rfl) ?y40101 (by assumption) ?_
    case y40101 => intro w h; (try dsimp only at h); go_simp; try with_reducible rfl
    simp only [sE0, sE1]; refine run_to 2 (bQ 45 1730872610311) o147_2_2 (by kernel_rfl) (by kernel_rfl) (by rfl) (fun K hK => ?_)
    go_simp; refine (key_calls _ _ (by omega)).mono ?_
    rintro e w' ⟨rfl, rfl⟩; rw [HK.out]; go_wp2_with fail
    refine hK.out _ _ ?_ (fun hHeld => ?_)
    ·(exact HS.out _ (by first | assumption | exact hHeld.1 | exact below_step hHeld.1 (by first | assumption | exact below_alloc _ _)))
    clear hK K; try simp only [Act.put, sEt, sE0, sE1]
    refine take_to 3 12 (bQ 45 1730872610319) (v := ?_) o147_2_3 rfl o147_2_ns (by kernel_rfl) (by kernel_rfl) (fun _ _ _ h => h) (by rfl) ?y3101 (by assumption) ?_
    case y3101 => intro w h; (try dsimp only at h); go_simp; try with_reducible rfl
    simp only [sE0, sE1]; refine skip_to 4 13 (bQ 45 1730872610335) o147_2_4 rfl o147_2_ns (by kernel_rfl) (by kernel_rfl) (fun _ _ _ h => h) (by rfl) (by assumption) ?_
    simp only [sE0, sE1]; refine skip_to 5 14 (bQ 45 1730872610367) o147_2_5 rfl o147_2_ns (by kernel_rfl) (by kernel_rfl) (fun _ _ _ h => h) (by rfl) (by assumption) ?_
    simp only [sE0, sE1]; refine skip_to 6 15 (bQ 45 1730872610431) o147_2_6 rfl o147_2_ns (by kernel_rfl) (by kernel_rfl) (fun _ _ _ h => h) (by rfl) (by assumption) ?_
    simp only [sE0, sE1]; refine take_to 7 16 (bQ 45 1730872610559) (v := ?_) o147_2_7 rfl o147_2_ns (by kernel_rfl) (by kernel_rfl) (fun _ _ _ h => h) (by rfl) ?y7101 (by assumption) ?_
    case y7101 => intro w h; (try dsimp only at h); go_simp; try with_reducible rfl
    simp only [sE0, sE1]; refine run_to 8 (bQ 45 1730872610815) o147_2_8 (by kernel_rfl) (by kernel_rfl) (by rfl) (fun K hK => ?_)
    go_simp; refine (unless_calls _ _ _).mono ?_; rintro e w' ⟨rfl, rfl⟩; go_wp2_with fail
    refine hK.out _ _ ?_ (fun hHeld => ?_)
    ·(exact HS.out _ (by first | assumption | exact hHeld.1 | exact below_step hHeld.1 (by first | assumption | exact below_alloc _ _)))
    clear hK K; try simp only [Act.put, sEt, sE0, sE1]
    refine take_to 12 21 (bQ 45 1730872614911) (v := ?_) o147_2_12 rfl o147_2_ns (by kernel_rfl) (by kernel_rfl) (fun _ _ _ h => h) (by rfl) ?y12101 (by assumption) ?_
    case y12101 => intro w h; (try dsimp only at h); go_simp; try with_reducible rfl
    simp only [sE0, sE1]; refine skip_to 13 22 (bQ 45 1730872623103) o147_2_13 rfl o147_2_ns (by kernel_rfl) (by kernel_rfl) (fun _ _ _ h => h) (by rfl) (by assumption) ?_
    simp only [sE0, sE1]; refine skip_to 14 23 (bQ 45 1730872639487) o147_2_14 rfl o147_2_ns (by kernel_rfl) (by kernel_rfl) (fun _ _ _ h => h) (by rfl) (by assumption) ?_
    simp only [sE0, sE1]; refine skip_to 15 24 (bQ 45 1730872672255) o147_2_15 rfl o147_2_ns (by kernel_rfl) (by kernel_rfl) (fun _ _ _ h => h) (by rfl) (by assumption) ?_
    simp only [sE0, sE1]; refine take_to 16 25 (bQ 45 1730872737791) (v := ?_) o147_2_16 rfl o147_2_ns (by kernel_rfl) (by kernel_rfl) (fun _ _ _ h => h) (by rfl) ?y16101 (by assumption) ?_
    case y16101 => intro w h; (try dsimp only at h); go_simp; try with_reducible rfl
    simp only [sE0, sE1]; refine run_to 17 (bQ 45 1730872868863) o147_2_17 (by kernel_rfl) (by kernel_rfl) (by rfl) (fun K hK => ?_)
    go_simp; refine (unless_calls _ _ _).mono ?_; rintro e w' ⟨rfl, rfl⟩; go_wp2_with fail
    refine hK.out _ _ ?_ (fun hHeld => ?_)
    ·(exact HS.out _ (by first | assumption | exact hHeld.1 | exact below_step hHeld.1 (by first | assumption | exact below_alloc _ _)))
    clear hK K; try simp only [Act.put, sEt, sE0, sE1]
    refine take_to 20 29 (bQ 45 1730873917439) (v := ?_) o147_2_20 rfl o147_2_ns (by kernel_rfl) (by kernel_rfl) (fun _ _ _ h => h) (by rfl) ?y20101 (by assumption) ?_
    case y20101 => intro w h; (try dsimp only at h); go_simp; try with_reducible rfl
    simp only [sE0, sE1]; refine skip_to 21 30 (bQ 45 1730876014591) o147_2_21 rfl o147_2_ns (by kernel_rfl) (by kernel_rfl) (fun _ _ _ h => h) (by rfl) (by assumption) ?_
    simp only [sE0, sE1]; refine skip_to 22 31 (bQ 45 1730880208895) o147_2_22 rfl o147_2_ns (by kernel_rfl) (by kernel_rfl) (fun _ _ _ h => h) (by rfl) (by assumption) ?_
    simp only [sE0, sE1]; refine skip_to 23 32 (bQ 45 1730888597503) o147_2_23 rfl o147_2_ns (by kernel_rfl) (by kernel_rfl) (fun _ _ _ h => h) (by rfl) (by assumption) ?_
    simp only [sE0, sE1]; refine skip_to 24 33 (bQ 45 1730905374719) o147_2_24 rfl o147_2_ns (by kernel_rfl) (by kernel_rfl) (fun _ _ _ h => h) (by rfl) (by assumption) ?_
    simp only [sE0, sE1]; refine skip_to 25 34 (bQ 45 1730938929151) o147_2_25 rfl o147_2_ns (by kernel_rfl) (by kernel_rfl) (fun _ _ _ h => h) (by rfl) (by assumption) ?_
    simp only [sE0, sE1]; refine skip_to 26 35 (bQ 45 1731006038015) o147_2_26 rfl o147_2_ns (by kernel_rfl) (by kernel_rfl) (fun _ _ _ h => h) (by rfl) (by assumption) ?_
    simp only [sE0, sE1]; refine skip_to 27 36 (bQ 45 1731140255743) o147_2_27 rfl o147_2_ns (by kernel_rfl) (by kernel_rfl) (fun _ _ _ h => h) (by rfl) (by assumption) ?_
    simp only [sE0, sE1]; refine skip_to 28 37 (bQ 45 1731408691199) o147_2_28 rfl o147_2_ns (by kernel_rfl) (by kernel_rfl) (fun _ _ _ h => h) (by rfl) (by assumption) ?_
    simp only [sE0, sE1]; refine skip_to 29 38 (bQ 45 1731945562111) o147_2_29 rfl o147_2_ns (by kernel_rfl) (by kernel_rfl) (fun _ _ _ h => h) (by rfl) (by assumption) ?_
    simp only [sE0, sE1]; refine take_to 30 39 (bQ 45 1733019303935) (v := ?_) o147_2_30 rfl o147_2_ns (by kernel_rfl) (by kernel_rfl) (fun _ _ _ h => h) (by rfl) ?y30101 (by assumption) ?_
    case y30101 => intro w h; (try dsimp only at h); go_simp; try with_reducible rfl
    simp only [sE0, sE1]; refine run_to 31 (bQ 45 1735166787583) o147_2_31 (by kernel_rfl) (by kernel_rfl) (by rfl) (fun K hK => ?_)
    go_simp; refine (unless_calls _ _ _).mono ?_; rintro e w' ⟨rfl, rfl⟩; go_wp2_with fail
    refine hK.out _ _ ?_ (fun hHeld => ?_)
    ·(exact HS.out _ (by first | assumption | exact hHeld.1 | exact below_step hHeld.1 (by first | assumption | exact below_alloc _ _)))
    clear hK K; try simp only [Act.put, sEt, sE0, sE1]
    refine run_to 34 (bQ 45 1752346656767) o147_2_34 (by kernel_rfl) (by kernel_rfl) (by rfl) (fun K hK => ?_)
    go_simp; refine (between_calls _ 1 4 _).mono ?_; rintro e w' ⟨rfl, rfl⟩; go_wp2_with fail
    refine hK.out _ _ ?_ (fun hHeld => ?_)
    ·(exact HS.out _ (by first | assumption | exact hHeld.1 | exact below_step hHeld.1 (by first | assumption | exact below_alloc _ _)))
    clear hK K; try simp only [Act.put, sEt, sE0, sE1]
    refine run_to 35 (bQ 45 1786706395135) o147_2_35 (by kernel_rfl) (by kernel_rfl) (by rfl) (fun K hK => ?_)
    go_simp; refine (unless_calls _ _ _).mono ?_; rintro e w' ⟨rfl, rfl⟩; go_wp2_with fail
    refine hK.out _ _ ?_ (fun hHeld => ?_)
    ·(exact HS.out _ (by first | assumption | exact hHeld.1 | exact below_step hHeld.1 (by first | assumption | exact below_alloc _ _)))
    clear hK K; try simp only [Act.put, sEt, sE0, sE1]
    refine run_to 37 (bQ 45 1924145348607) o147_2_37 (by kernel_rfl) (by kernel_rfl) (by rfl) (fun K hK => ?_)
    go_simp; refine (manyFits_calls r _).mono ?_; rintro e w' ⟨rfl, hb⟩; go_wp2_with fail
    refine hK.out _ _ ?_ (fun hHeld => ?_)
    ·(exact HS.out _ (by first | assumption | exact hHeld.1 | exact below_step hHeld.1 (by first | assumption | exact below_alloc _ _)))
    clear hK K; try simp only [Act.put, sEt, sE0, sE1]
    refine run_to 38 (bQ 45 2199023255551) o147_2_38 (by kernel_rfl) (by kernel_rfl) (by rfl) (fun K hK => ?_)
    go_simp; refine (unless_calls _ _ _).mono ?_; rintro e w' ⟨rfl, rfl⟩; go_wp2_with fail
    refine hK.out _ _ ?_ (fun hHeld => ?_)
    ·(exact HS.out _ (by first | assumption | exact hHeld.1 | exact below_step hHeld.1 (by first | assumption | exact below_alloc _ _)))
    clear hK K; try simp only [Act.put, sEt, sE0, sE1]
    refine run_to 41 (bQ 45 4398046511103) o147_2_41 (by kernel_rfl) (by kernel_rfl) (by rfl) (fun K hK => ?_)
    go_simp; refine (wrong_calls r.num r.den _ H6.out H7.out).mono ?_; rintro e w' ⟨rfl, hb⟩; go_wp2_with fail
    refine hK.out _ _ ?_ (fun hHeld => ?_)
    ·(exact HS.out _ (by first | assumption | exact hHeld.1 | exact below_step hHeld.1 (by first | assumption | exact below_alloc _ _)))
    clear hK K; try simp only [Act.put, sEt, sE0, sE1]
    refine run_to 42 (bQ 45 8796093022207) o147_2_42 (by kernel_rfl) (by kernel_rfl) (by rfl) (fun K hK => ?_)
    go_simp; refine hK.out _ _ ?_ (fun hHeld => ?_)
    ·(exact HS.out _ (by first | assumption | exact hHeld.1 | exact below_step hHeld.1 (by first | assumption | exact below_alloc _ _)))
    clear hK K; try simp only [Act.put, sEt, sE0, sE1]
    refine run_to 43 (bQ 45 17592186044415) o147_2_43 (by kernel_rfl) (by kernel_rfl) (by rfl) (fun K hK => ?_)
    go_simp; refine (orE_calls _ 0 6 [unlessE false 5, unlessE true 5, unlessE true 7, unlessE (betwB r.kind 1 4) 4, unlessE (manyB r.kind r.many) 1, wrongF r.num r.den 10000] _ (by simp) (by exact nums6 _ _ _ _ _ _ _ _)).mono ?_
    rintro e w' ⟨rfl, rfl⟩; go_wp2_with fail
    refine hK.out _ _ ?_ (fun hHeld => ?_)
    ·(exact HS.out _ (by first | assumption | exact hHeld.1 | exact below_step hHeld.1 (by first | assumption | exact below_alloc _ _)))
    clear hK K; try simp only [Act.put, sEt, sE0, sE1]
    refine take_to 44 3 (bQ 45 35184372088831) (v := ?_) o147_2_44 rfl o147_2_ns (by kernel_rfl) (by kernel_rfl) (fun _ _ _ h => h) (by rfl) ?y44101 (by assumption) ?_
    case y44101 => intro w h; (try dsimp only at h); go_simp; try with_reducible rfl
    simp only [sE0, sE1]; refine wpAnyH_done (by kernel_rfl) ?_ _
    go_wp2_with fail
    go_ret
    exact ⟨ret_int Hr.out.symm, below_step hwW hHeld.1⟩
   ·have ep : r.pos.toList.isEmpty = false := by rw [HE.out]; simp [hp]
    have Hr := Lib.hid (show rlF rs i = firstE [unlessE false 5, unlessE (keyB r.pos) 5, unlessE true 7, unlessE (betwB r.kind 1 4) 4, unlessE (manyB r.kind r.many) 1, wrongF r.num r.den 10000] by rw [rlF, rlAt_some hi]; simp [hp, HK.out, hz])
    clear hk hp hi hz c1 x0 x1 x2 x3 x4 x5 x6 hR hcell HS0; go_enter Tryz.func147, Tryz.ntmps147; go_upto_region 2 with fail
    rw [← hW]; clear hW; show Code.wp _ (Code.region 2 o147_2 true) _ _ _
    refine region_start 45 (fun w' => Below W.heap.size W w' ∧ w'.cell? ⟨c, 0, none⟩ = some (.slice (some ⟨g, off, none⟩) rs.length cap) ∧ w'.cell? ⟨w.heap.size, 0, none⟩ = some (.string r.key) ∧ w'.cell? ⟨w.heap.size, 1, none⟩ = some (.string r.stat) ∧ w'.cell? ⟨w.heap.size, 2, none⟩ = some (.string r.pos) ∧ w'.cell? ⟨w.heap.size, 3, none⟩ = some (.int .i64 r.kind) ∧ w'.cell? ⟨w.heap.size, 4, none⟩ = some (.int .i64 r.many) ∧ w'.cell? ⟨w.heap.size, 5, none⟩ = some (.int .i64 r.num) ∧ w'.cell? ⟨w.heap.size, 6, none⟩ = some (.int .i64 r.den)) (by kernel_rfl) rfl ?_ (fun hHeld => ?_)
    ·(exact HS.out _ (by first | assumption | exact hHeld.1 | exact below_step hHeld.1 (by first | assumption | exact below_alloc _ _)))
    refine take_to 0 9 (bQ 45 1) (v := ?_) o147_2_0 rfl o147_2_ns (by kernel_rfl) (by kernel_rfl) (fun _ _ _ h => h) (by rfl) ?y0100 (by assumption) ?_
    case y0100 => intro w h; (try dsimp only at h); go_simp; try with_reducible rfl
    simp only [sE0, sE1]; refine take_to 1 10 (bQ 45 3) (v := ?_) o147_2_1 rfl o147_2_ns (by kernel_rfl) (by kernel_rfl) (fun _ _ _ h => h) (by rfl) ?y1100 (by assumption) ?_
    case y1100 => intro w h; (try dsimp only at h); go_simp; try with_reducible rfl
    simp only [sE0, sE1]; refine take_to 9 18 (bQ 45 515) (v := ?_) o147_2_9 rfl o147_2_ns (by kernel_rfl) (by kernel_rfl) (fun _ _ _ h => h) (by rfl) ?y9100 (by assumption) ?_
    case y9100 => intro w h; (try dsimp only at h); go_simp; try with_reducible rfl
    simp only [sE0, sE1]; refine take_to 10 19 (bQ 45 1539) (v := ?_) o147_2_10 rfl o147_2_ns (by kernel_rfl) (by kernel_rfl) (fun _ _ _ h => h) (by rfl) ?y10100 (by assumption) ?_
    case y10100 => intro w h; (try dsimp only at h); go_simp; try with_reducible rfl
    simp only [sE0, sE1]; refine take_to 11 20 (bQ 45 3587) (v := ?_) o147_2_11 rfl o147_2_ns (by kernel_rfl) (by kernel_rfl) (fun _ _ _ h => h) (by rfl) ?y11100 (by assumption) ?_
    case y11100 => intro w h; (try dsimp only at h); go_simp; try with_reducible rfl
    simp only [sE0, sE1]; refine take_to 18 27 (bQ 45 265731) (v := ?_) o147_2_18 rfl o147_2_ns (by kernel_rfl) (by kernel_rfl) (fun _ _ _ h => h) (by rfl) ?y18100 (by assumption) ?_
    case y18100 => intro w h; (try dsimp only at h); go_simp; try with_reducible rfl
    simp only [sE0, sE1]; refine take_to 19 28 (bQ 45 790019) (v := ?_) o147_2_19 rfl o147_2_ns (by kernel_rfl) (by kernel_rfl) (fun _ _ _ h => h) (by rfl) ?y19100 (by assumption) ?_
    case y19100 => intro w h; (try dsimp only at h); go_simp; try with_reducible rfl
    simp only [sE0, sE1]; refine take_to 32 41 (bQ 45 4295757315) (v := ?_) o147_2_32 rfl o147_2_ns (by kernel_rfl) (by kernel_rfl) (fun _ _ _ h => h) (by rfl) ?y32100 (by assumption) ?_
    case y32100 => intro w h; (try dsimp only at h); go_simp; try with_reducible rfl
    simp only [sE0, sE1]; refine take_to 33 42 (bQ 45 12885691907) (v := ?_) o147_2_33 rfl o147_2_ns (by kernel_rfl) (by kernel_rfl) (fun _ _ _ h => h) (by rfl) ?y33100 (by assumption) ?_
    case y33100 => intro w h; (try dsimp only at h); go_simp; try with_reducible rfl
    simp only [sE0, sE1]; refine take_to 36 45 (bQ 45 81605168643) (v := ?_) o147_2_36 rfl o147_2_ns (by kernel_rfl) (by kernel_rfl) (fun _ _ _ h => h) (by rfl) ?y36100 (by assumption) ?_
    case y36100 => intro w h; (try dsimp only at h); go_simp; try with_reducible rfl
    simp only [sE0, sE1]; refine take_to 39 48 (bQ 45 631360982531) (v := ?_) o147_2_39 rfl o147_2_ns (by kernel_rfl) (by kernel_rfl) (fun _ _ _ h => h) (by rfl) ?y39100 (by assumption) ?_
    case y39100 => intro w h; (try dsimp only at h); go_simp; try with_reducible rfl
    simp only [sE0, sE1]; refine take_to 40 49 (bQ 45 1730872610307) (v := ?_) o147_2_40 rfl o147_2_ns (by kernel_rfl) (by kernel_rfl) (fun _ _ _ h => h) (by rfl) ?y40100 (by assumption) ?_
    case y40100 => intro w h; (try dsimp only at h); go_simp; try with_reducible rfl
    simp only [sE0, sE1]; refine run_to 2 (bQ 45 1730872610311) o147_2_2 (by kernel_rfl) (by kernel_rfl) (by rfl) (fun K hK => ?_)
    go_simp; refine (key_calls _ _ (by omega)).mono ?_
    rintro e w' ⟨rfl, rfl⟩; rw [HK.out]; go_wp2_with fail
    refine hK.out _ _ ?_ (fun hHeld => ?_)
    ·(exact HS.out _ (by first | assumption | exact hHeld.1 | exact below_step hHeld.1 (by first | assumption | exact below_alloc _ _)))
    clear hK K; try simp only [Act.put, sEt, sE0, sE1]
    refine take_to 3 12 (bQ 45 1730872610319) (v := ?_) o147_2_3 rfl o147_2_ns (by kernel_rfl) (by kernel_rfl) (fun _ _ _ h => h) (by rfl) ?y3100 (by assumption) ?_
    case y3100 => intro w h; (try dsimp only at h); go_simp; try with_reducible rfl
    simp only [sE0, sE1]; refine skip_to 4 13 (bQ 45 1730872610335) o147_2_4 rfl o147_2_ns (by kernel_rfl) (by kernel_rfl) (fun _ _ _ h => h) (by rfl) (by assumption) ?_
    simp only [sE0, sE1]; refine skip_to 5 14 (bQ 45 1730872610367) o147_2_5 rfl o147_2_ns (by kernel_rfl) (by kernel_rfl) (fun _ _ _ h => h) (by rfl) (by assumption) ?_
    simp only [sE0, sE1]; refine skip_to 6 15 (bQ 45 1730872610431) o147_2_6 rfl o147_2_ns (by kernel_rfl) (by kernel_rfl) (fun _ _ _ h => h) (by rfl) (by assumption) ?_
    simp only [sE0, sE1]; refine take_to 7 16 (bQ 45 1730872610559) (v := ?_) o147_2_7 rfl o147_2_ns (by kernel_rfl) (by kernel_rfl) (fun _ _ _ h => h) (by rfl) ?y7100 (by assumption) ?_
    case y7100 => intro w h; (try dsimp only at h); go_simp; try with_reducible rfl
    simp only [sE0, sE1]; refine run_to 8 (bQ 45 1730872610815) o147_2_8 (by kernel_rfl) (by kernel_rfl) (by rfl) (fun K hK => ?_)
    go_simp; refine (unless_calls _ _ _).mono ?_; rintro e w' ⟨rfl, rfl⟩; go_wp2_with fail
    refine hK.out _ _ ?_ (fun hHeld => ?_)
    ·(exact HS.out _ (by first | assumption | exact hHeld.1 | exact below_step hHeld.1 (by first | assumption | exact below_alloc _ _)))
    clear hK K; try simp only [Act.put, sEt, sE0, sE1]
    refine take_to 12 21 (bQ 45 1730872614911) (v := ?_) o147_2_12 rfl o147_2_ns (by kernel_rfl) (by kernel_rfl) (fun _ _ _ h => h) (by rfl) ?y12100 (by assumption) ?_
    case y12100 => intro w h; (try dsimp only at h); go_simp; try with_reducible rfl
    simp only [sE0, sE1]; refine take_to 13 22 (bQ 45 1730872623103) (v := ?_) o147_2_13 rfl o147_2_ns (by kernel_rfl) (by kernel_rfl) (fun _ _ _ h => h) (by rfl) ?y13100 (by assumption) ?_
    case y13100 => intro w h; (try dsimp only at h); go_simp; try with_reducible rfl
    simp only [sE0, sE1]; refine take_to 14 23 (bQ 45 1730872639487) (v := ?_) o147_2_14 rfl o147_2_ns (by kernel_rfl) (by kernel_rfl) (fun _ _ _ h => h) (by rfl) ?y14100 (by assumption) ?_
    case y14100 => intro w h; (try dsimp only at h); go_simp; try with_reducible rfl
    simp only [sE0, sE1]; refine run_to 15 (bQ 45 1730872672255) o147_2_15 (by kernel_rfl) (by kernel_rfl) (by rfl) (fun K hK => ?_)
    go_simp; refine (key_calls _ _ (by omega)).mono ?_
    rintro e w' ⟨rfl, rfl⟩; go_wp2_with fail
    refine hK.out _ _ ?_ (fun hHeld => ?_)
    ·(exact HS.out _ (by first | assumption | exact hHeld.1 | exact below_step hHeld.1 (by first | assumption | exact below_alloc _ _)))
    clear hK K; try simp only [Act.put, sEt, sE0, sE1]
    refine take_to 16 25 (bQ 45 1730872737791) (v := ?_) o147_2_16 rfl o147_2_ns (by kernel_rfl) (by kernel_rfl) (fun _ _ _ h => h) (by rfl) ?y16100 (by assumption) ?_
    case y16100 => intro w h; (try dsimp only at h); go_simp; try with_reducible rfl
    simp only [sE0, sE1]; refine run_to 17 (bQ 45 1730872868863) o147_2_17 (by kernel_rfl) (by kernel_rfl) (by rfl) (fun K hK => ?_)
    go_simp; refine (unless_calls _ _ _).mono ?_; rintro e w' ⟨rfl, rfl⟩; go_wp2_with fail
    refine hK.out _ _ ?_ (fun hHeld => ?_)
    ·(exact HS.out _ (by first | assumption | exact hHeld.1 | exact below_step hHeld.1 (by first | assumption | exact below_alloc _ _)))
    clear hK K; try simp only [Act.put, sEt, sE0, sE1]
    refine take_to 20 29 (bQ 45 1730873917439) (v := ?_) o147_2_20 rfl o147_2_ns (by kernel_rfl) (by kernel_rfl) (fun _ _ _ h => h) (by rfl) ?y20100 (by assumption) ?_
    case y20100 => intro w h; (try dsimp only at h); go_simp; try with_reducible rfl
    simp only [sE0, sE1]; refine skip_to 21 30 (bQ 45 1730876014591) o147_2_21 rfl o147_2_ns (by kernel_rfl) (by kernel_rfl) (fun _ _ _ h => h) (by rfl) (by assumption) ?_
    simp only [sE0, sE1]; refine skip_to 22 31 (bQ 45 1730880208895) o147_2_22 rfl o147_2_ns (by kernel_rfl) (by kernel_rfl) (fun _ _ _ h => h) (by rfl) (by assumption) ?_
    simp only [sE0, sE1]; refine skip_to 23 32 (bQ 45 1730888597503) o147_2_23 rfl o147_2_ns (by kernel_rfl) (by kernel_rfl) (fun _ _ _ h => h) (by rfl) (by assumption) ?_
    simp only [sE0, sE1]; refine skip_to 24 33 (bQ 45 1730905374719) o147_2_24 rfl o147_2_ns (by kernel_rfl) (by kernel_rfl) (fun _ _ _ h => h) (by rfl) (by assumption) ?_
    simp only [sE0, sE1]; refine skip_to 25 34 (bQ 45 1730938929151) o147_2_25 rfl o147_2_ns (by kernel_rfl) (by kernel_rfl) (fun _ _ _ h => h) (by rfl) (by assumption) ?_
    simp only [sE0, sE1]; refine skip_to 26 35 (bQ 45 1731006038015) o147_2_26 rfl o147_2_ns (by kernel_rfl) (by kernel_rfl) (fun _ _ _ h => h) (by rfl) (by assumption) ?_
    simp only [sE0, sE1]; refine skip_to 27 36 (bQ 45 1731140255743) o147_2_27 rfl o147_2_ns (by kernel_rfl) (by kernel_rfl) (fun _ _ _ h => h) (by rfl) (by assumption) ?_
    simp only [sE0, sE1]; refine skip_to 28 37 (bQ 45 1731408691199) o147_2_28 rfl o147_2_ns (by kernel_rfl) (by kernel_rfl) (fun _ _ _ h => h) (by rfl) (by assumption) ?_
    simp only [sE0, sE1]; refine skip_to 29 38 (bQ 45 1731945562111) o147_2_29 rfl o147_2_ns (by kernel_rfl) (by kernel_rfl) (fun _ _ _ h => h) (by rfl) (by assumption) ?_
    simp only [sE0, sE1]; refine take_to 30 39 (bQ 45 1733019303935) (v := ?_) o147_2_30 rfl o147_2_ns (by kernel_rfl) (by kernel_rfl) (fun _ _ _ h => h) (by rfl) ?y30100 (by assumption) ?_
    case y30100 => intro w h; (try dsimp only at h); go_simp; try with_reducible rfl
    simp only [sE0, sE1]; refine run_to 31 (bQ 45 1735166787583) o147_2_31 (by kernel_rfl) (by kernel_rfl) (by rfl) (fun K hK => ?_)
    go_simp; refine (unless_calls _ _ _).mono ?_; rintro e w' ⟨rfl, rfl⟩; go_wp2_with fail
    refine hK.out _ _ ?_ (fun hHeld => ?_)
    ·(exact HS.out _ (by first | assumption | exact hHeld.1 | exact below_step hHeld.1 (by first | assumption | exact below_alloc _ _)))
    clear hK K; try simp only [Act.put, sEt, sE0, sE1]
    refine run_to 34 (bQ 45 1752346656767) o147_2_34 (by kernel_rfl) (by kernel_rfl) (by rfl) (fun K hK => ?_)
    go_simp; refine (between_calls _ 1 4 _).mono ?_; rintro e w' ⟨rfl, rfl⟩; go_wp2_with fail
    refine hK.out _ _ ?_ (fun hHeld => ?_)
    ·(exact HS.out _ (by first | assumption | exact hHeld.1 | exact below_step hHeld.1 (by first | assumption | exact below_alloc _ _)))
    clear hK K; try simp only [Act.put, sEt, sE0, sE1]
    refine run_to 35 (bQ 45 1786706395135) o147_2_35 (by kernel_rfl) (by kernel_rfl) (by rfl) (fun K hK => ?_)
    go_simp; refine (unless_calls _ _ _).mono ?_; rintro e w' ⟨rfl, rfl⟩; go_wp2_with fail
    refine hK.out _ _ ?_ (fun hHeld => ?_)
    ·(exact HS.out _ (by first | assumption | exact hHeld.1 | exact below_step hHeld.1 (by first | assumption | exact below_alloc _ _)))
    clear hK K; try simp only [Act.put, sEt, sE0, sE1]
    refine run_to 37 (bQ 45 1924145348607) o147_2_37 (by kernel_rfl) (by kernel_rfl) (by rfl) (fun K hK => ?_)
    go_simp; refine (manyFits_calls r _).mono ?_; rintro e w' ⟨rfl, hb⟩; go_wp2_with fail
    refine hK.out _ _ ?_ (fun hHeld => ?_)
    ·(exact HS.out _ (by first | assumption | exact hHeld.1 | exact below_step hHeld.1 (by first | assumption | exact below_alloc _ _)))
    clear hK K; try simp only [Act.put, sEt, sE0, sE1]
    refine run_to 38 (bQ 45 2199023255551) o147_2_38 (by kernel_rfl) (by kernel_rfl) (by rfl) (fun K hK => ?_)
    go_simp; refine (unless_calls _ _ _).mono ?_; rintro e w' ⟨rfl, rfl⟩; go_wp2_with fail
    refine hK.out _ _ ?_ (fun hHeld => ?_)
    ·(exact HS.out _ (by first | assumption | exact hHeld.1 | exact below_step hHeld.1 (by first | assumption | exact below_alloc _ _)))
    clear hK K; try simp only [Act.put, sEt, sE0, sE1]
    refine run_to 41 (bQ 45 4398046511103) o147_2_41 (by kernel_rfl) (by kernel_rfl) (by rfl) (fun K hK => ?_)
    go_simp; refine (wrong_calls r.num r.den _ H6.out H7.out).mono ?_; rintro e w' ⟨rfl, hb⟩; go_wp2_with fail
    refine hK.out _ _ ?_ (fun hHeld => ?_)
    ·(exact HS.out _ (by first | assumption | exact hHeld.1 | exact below_step hHeld.1 (by first | assumption | exact below_alloc _ _)))
    clear hK K; try simp only [Act.put, sEt, sE0, sE1]
    refine run_to 42 (bQ 45 8796093022207) o147_2_42 (by kernel_rfl) (by kernel_rfl) (by rfl) (fun K hK => ?_)
    go_simp; refine hK.out _ _ ?_ (fun hHeld => ?_)
    ·(exact HS.out _ (by first | assumption | exact hHeld.1 | exact below_step hHeld.1 (by first | assumption | exact below_alloc _ _)))
    clear hK K; try simp only [Act.put, sEt, sE0, sE1]
    refine run_to 43 (bQ 45 17592186044415) o147_2_43 (by kernel_rfl) (by kernel_rfl) (by rfl) (fun K hK => ?_)
    go_simp; refine (orE_calls _ 0 6 [unlessE false 5, unlessE (keyB r.pos) 5, unlessE true 7, unlessE (betwB r.kind 1 4) 4, unlessE (manyB r.kind r.many) 1, wrongF r.num r.den 10000] _ (by simp) (by exact nums6 _ _ _ _ _ _ _ _)).mono ?_
    rintro e w' ⟨rfl, rfl⟩; go_wp2_with fail
    refine hK.out _ _ ?_ (fun hHeld => ?_)
    ·(exact HS.out _ (by first | assumption | exact hHeld.1 | exact below_step hHeld.1 (by first | assumption | exact below_alloc _ _)))
    clear hK K; try simp only [Act.put, sEt, sE0, sE1]
    refine take_to 44 3 (bQ 45 35184372088831) (v := ?_) o147_2_44 rfl o147_2_ns (by kernel_rfl) (by kernel_rfl) (fun _ _ _ h => h) (by rfl) ?y44100 (by assumption) ?_
    case y44100 => intro w h; (try dsimp only at h); go_simp; try with_reducible rfl
    simp only [sE0, sE1]; refine wpAnyH_done (by kernel_rfl) ?_ _
    go_wp2_with fail
    go_ret
    exact ⟨ret_int Hr.out.symm, below_step hwW hHeld.1⟩
 ·obtain ⟨sp, hsp⟩ : ∃ sp, rs[i - 1]? = some sp := ⟨_, List.getElem?_eq_getElem (show i - 1 < rs.length by omega)⟩
  obtain ⟨r0, -⟩ := hcell (i - 1) sp hsp; have r0W := below_cell hwW r0; have e0 : ((i : Int) == 0) = false := by rw [beq_eq_false_iff_ne]; omega
  have w1 : IntKind.i64.wrap ((i : Int) - 1) = ((i - 1 : Nat) : Int) := by rw [IntWalk.i64_in _ (by omega)]; omega
  have w2 : ((i - 1 : Nat) : Int) < (rs.length : Int) := by omega
  have HS := Lib.hid (show ∀ w', Below W.heap.size W w' → (Below W.heap.size W w' ∧ w'.cell? ⟨c, 0, none⟩ = some (.slice (some ⟨g, off, none⟩) rs.length cap) ∧ w'.cell? ⟨w.heap.size, 0, none⟩ = some (.string r.key) ∧ w'.cell? ⟨w.heap.size, 1, none⟩ = some (.string r.stat) ∧ w'.cell? ⟨w.heap.size, 2, none⟩ = some (.string r.pos) ∧ w'.cell? ⟨w.heap.size, 3, none⟩ = some (.int .i64 r.kind) ∧ w'.cell? ⟨w.heap.size, 4, none⟩ = some (.int .i64 r.many) ∧ w'.cell? ⟨w.heap.size, 5, none⟩ = some (.int .i64 r.num) ∧ w'.cell? ⟨w.heap.size, 6, none⟩ = some (.int .i64 r.den) ∧ w'.cell? ⟨g, off + (i - 1) * 7, none⟩ = some (.string sp.key)) from fun w' hb => ⟨hb, below_cell hb c1, below_cell hb x0, below_cell hb x1, below_cell hb x2, below_cell hb x3, below_cell hb x4, below_cell hb x5, below_cell hb x6, below_cell hb r0W⟩)
  by_cases hk : keyB r.key = true
  ·have HK := Lib.hid (show keyB r.key = true from by simpa using hk)
   by_cases hp : r.pos.size = 0
   ·have ep : r.pos.toList.isEmpty = true := by rw [HE.out]; simp [hp]
    have Hr := Lib.hid (show rlF rs i = firstE [unlessE (keyB r.stat) 5, unlessE true 5, unlessE (ltS sp.key r.key) 7, unlessE (betwB r.kind 1 4) 4, unlessE (manyB r.kind r.many) 1, wrongF r.num r.den 10000] by rw [rlF, rlAt_some hi, rlAt_some hsp]; simp [hp, HK.out, hz])
    clear hk hp hi hz c1 x0 x1 x2 x3 x4 x5 x6 hR hcell HS0 r0 r0W hsp; go_enter Tryz.func147, Tryz.ntmps147; go_upto_region 2 with fail
    rw [← hW]; clear hW; show Code.wp _ (Code.region 2 o147_2 true) _ _ _
    refine region_start 45 (fun w' => Below W.heap.size W w' ∧ w'.cell? ⟨c, 0, none⟩ = some (.slice (some ⟨g, off, none⟩) rs.length cap) ∧ w'.cell? ⟨w.heap.size, 0, none⟩ = some (.string r.key) ∧ w'.cell? ⟨w.heap.size, 1, none⟩ = some (.string r.stat) ∧ w'.cell? ⟨w.heap.size, 2, none⟩ = some (.string r.pos) ∧ w'.cell? ⟨w.heap.size, 3, none⟩ = some (.int .i64 r.kind) ∧ w'.cell? ⟨w.heap.size, 4, none⟩ = some (.int .i64 r.many) ∧ w'.cell? ⟨w.heap.size, 5, none⟩ = some (.int .i64 r.num) ∧ w'.cell? ⟨w.heap.size, 6, none⟩ = some (.int .i64 r.den) ∧ w'.cell? ⟨g, off + (i - 1) * 7, none⟩ = some (.string sp.key)) (by kernel_rfl) rfl ?_ (fun hHeld => ?_)
    ·(exact HS.out _ (by first | assumption | exact hHeld.1 | exact below_step hHeld.1 (by first | assumption | exact below_alloc _ _)))
    refine take_to 0 9 (bQ 45 1) (v := ?_) o147_2_0 rfl o147_2_ns (by kernel_rfl) (by kernel_rfl) (fun _ _ _ h => h) (by rfl) ?y0011 (by assumption) ?_
    case y0011 => intro w h; (try dsimp only at h); go_simp; try with_reducible rfl
    simp only [sE0, sE1]; refine take_to 1 10 (bQ 45 3) (v := ?_) o147_2_1 rfl o147_2_ns (by kernel_rfl) (by kernel_rfl) (fun _ _ _ h => h) (by rfl) ?y1011 (by assumption) ?_
    case y1011 => intro w h; (try dsimp only at h); go_simp; try with_reducible rfl
    simp only [sE0, sE1]; refine take_to 9 18 (bQ 45 515) (v := ?_) o147_2_9 rfl o147_2_ns (by kernel_rfl) (by kernel_rfl) (fun _ _ _ h => h) (by rfl) ?y9011 (by assumption) ?_
    case y9011 => intro w h; (try dsimp only at h); go_simp; try with_reducible rfl
    simp only [sE0, sE1]; refine take_to 10 19 (bQ 45 1539) (v := ?_) o147_2_10 rfl o147_2_ns (by kernel_rfl) (by kernel_rfl) (fun _ _ _ h => h) (by rfl) ?y10011 (by assumption) ?_
    case y10011 => intro w h; (try dsimp only at h); go_simp; try with_reducible rfl
    simp only [sE0, sE1]; refine take_to 11 20 (bQ 45 3587) (v := ?_) o147_2_11 rfl o147_2_ns (by kernel_rfl) (by kernel_rfl) (fun _ _ _ h => h) (by rfl) ?y11011 (by assumption) ?_
    case y11011 => intro w h; (try dsimp only at h); go_simp; try with_reducible rfl
    simp only [sE0, sE1]; refine take_to 18 27 (bQ 45 265731) (v := ?_) o147_2_18 rfl o147_2_ns (by kernel_rfl) (by kernel_rfl) (fun _ _ _ h => h) (by rfl) ?y18011 (by assumption) ?_
    case y18011 => intro w h; (try dsimp only at h); go_simp; try with_reducible rfl
    simp only [sE0, sE1]; refine take_to 19 28 (bQ 45 790019) (v := ?_) o147_2_19 rfl o147_2_ns (by kernel_rfl) (by kernel_rfl) (fun _ _ _ h => h) (by rfl) ?y19011 (by assumption) ?_
    case y19011 => intro w h; (try dsimp only at h); go_simp; try with_reducible rfl
    simp only [sE0, sE1]; refine take_to 32 41 (bQ 45 4295757315) (v := ?_) o147_2_32 rfl o147_2_ns (by kernel_rfl) (by kernel_rfl) (fun _ _ _ h => h) (by rfl) ?y32011 (by assumption) ?_
    case y32011 => intro w h; (try dsimp only at h); go_simp; try with_reducible rfl
    simp only [sE0, sE1]; refine take_to 33 42 (bQ 45 12885691907) (v := ?_) o147_2_33 rfl o147_2_ns (by kernel_rfl) (by kernel_rfl) (fun _ _ _ h => h) (by rfl) ?y33011 (by assumption) ?_
    case y33011 => intro w h; (try dsimp only at h); go_simp; try with_reducible rfl
    simp only [sE0, sE1]; refine take_to 36 45 (bQ 45 81605168643) (v := ?_) o147_2_36 rfl o147_2_ns (by kernel_rfl) (by kernel_rfl) (fun _ _ _ h => h) (by rfl) ?y36011 (by assumption) ?_
    case y36011 => intro w h; (try dsimp only at h); go_simp; try with_reducible rfl
    simp only [sE0, sE1]; refine take_to 39 48 (bQ 45 631360982531) (v := ?_) o147_2_39 rfl o147_2_ns (by kernel_rfl) (by kernel_rfl) (fun _ _ _ h => h) (by rfl) ?y39011 (by assumption) ?_
    case y39011 => intro w h; (try dsimp only at h); go_simp; try with_reducible rfl
    simp only [sE0, sE1]; refine take_to 40 49 (bQ 45 1730872610307) (v := ?_) o147_2_40 rfl o147_2_ns (by kernel_rfl) (by kernel_rfl) (fun _ _ _ h => h) (by rfl) ?y40011 (by assumption) ?_
    case y40011 => intro w h; (try dsimp only at h); go_simp; try with_reducible rfl
    simp only [sE0, sE1]; refine run_to 2 (bQ 45 1730872610311) o147_2_2 (by kernel_rfl) (by kernel_rfl) (by rfl) (fun K hK => ?_)
    go_simp; refine (key_calls _ _ (by omega)).mono ?_
    rintro e w' ⟨rfl, rfl⟩; rw [HK.out]; go_wp2_with fail
    refine hK.out _ _ ?_ (fun hHeld => ?_)
    ·(exact HS.out _ (by first | assumption | exact hHeld.1 | exact below_step hHeld.1 (by first | assumption | exact below_alloc _ _)))
    clear hK K; try simp only [Act.put, sEt, sE0, sE1]
    refine take_to 3 12 (bQ 45 1730872610319) (v := ?_) o147_2_3 rfl o147_2_ns (by kernel_rfl) (by kernel_rfl) (fun _ _ _ h => h) (by rfl) ?y3011 (by assumption) ?_
    case y3011 => intro w h; (try dsimp only at h); go_simp; try with_reducible rfl
    simp only [sE0, sE1]; refine take_to 4 13 (bQ 45 1730872610335) (v := ?_) o147_2_4 rfl o147_2_ns (by kernel_rfl) (by kernel_rfl) (fun _ _ _ h => h) (by rfl) ?y4011 (by assumption) ?_
    case y4011 => intro w h; (try dsimp only at h); go_simp; try with_reducible rfl
    simp only [sE0, sE1]; refine take_to 5 14 (bQ 45 1730872610367) (v := ?_) o147_2_5 rfl o147_2_ns (by kernel_rfl) (by kernel_rfl) (fun _ _ _ h => h) (by rfl) ?y5011 (by assumption) ?_
    case y5011 => intro w h; (try dsimp only at h); go_simp; try with_reducible rfl
    simp only [sE0, sE1]; refine run_to 6 (bQ 45 1730872610431) o147_2_6 (by kernel_rfl) (by kernel_rfl) (by rfl) (fun K hK => ?_)
    go_simp; refine (key_calls _ _ (by omega)).mono ?_
    rintro e w' ⟨rfl, rfl⟩; go_wp2_with fail
    refine hK.out _ _ ?_ (fun hHeld => ?_)
    ·(exact HS.out _ (by first | assumption | exact hHeld.1 | exact below_step hHeld.1 (by first | assumption | exact below_alloc _ _)))
    clear hK K; try simp only [Act.put, sEt, sE0, sE1]
    refine take_to 7 16 (bQ 45 1730872610559) (v := ?_) o147_2_7 rfl o147_2_ns (by kernel_rfl) (by kernel_rfl) (fun _ _ _ h => h) (by rfl) ?y7011 (by assumption) ?_
    case y7011 => intro w h; (try dsimp only at h); go_simp; try with_reducible rfl
    simp only [sE0, sE1]; refine run_to 8 (bQ 45 1730872610815) o147_2_8 (by kernel_rfl) (by kernel_rfl) (by rfl) (fun K hK => ?_)
    go_simp; refine (unless_calls _ _ _).mono ?_; rintro e w' ⟨rfl, rfl⟩; go_wp2_with fail
    refine hK.out _ _ ?_ (fun hHeld => ?_)
    ·(exact HS.out _ (by first | assumption | exact hHeld.1 | exact below_step hHeld.1 (by first | assumption | exact below_alloc _ _)))
    clear hK K; try simp only [Act.put, sEt, sE0, sE1]
    refine take_to 12 21 (bQ 45 1730872614911) (v := ?_) o147_2_12 rfl o147_2_ns (by kernel_rfl) (by kernel_rfl) (fun _ _ _ h => h) (by rfl) ?y12011 (by assumption) ?_
    case y12011 => intro w h; (try dsimp only at h); go_simp; try with_reducible rfl
    simp only [sE0, sE1]; refine skip_to 13 22 (bQ 45 1730872623103) o147_2_13 rfl o147_2_ns (by kernel_rfl) (by kernel_rfl) (fun _ _ _ h => h) (by rfl) (by assumption) ?_
    simp only [sE0, sE1]; refine skip_to 14 23 (bQ 45 1730872639487) o147_2_14 rfl o147_2_ns (by kernel_rfl) (by kernel_rfl) (fun _ _ _ h => h) (by rfl) (by assumption) ?_
    simp only [sE0, sE1]; refine skip_to 15 24 (bQ 45 1730872672255) o147_2_15 rfl o147_2_ns (by kernel_rfl) (by kernel_rfl) (fun _ _ _ h => h) (by rfl) (by assumption) ?_
    simp only [sE0, sE1]; refine take_to 16 25 (bQ 45 1730872737791) (v := ?_) o147_2_16 rfl o147_2_ns (by kernel_rfl) (by kernel_rfl) (fun _ _ _ h => h) (by rfl) ?y16011 (by assumption) ?_
    case y16011 => intro w h; (try dsimp only at h); go_simp; try with_reducible rfl
    simp only [sE0, sE1]; refine run_to 17 (bQ 45 1730872868863) o147_2_17 (by kernel_rfl) (by kernel_rfl) (by rfl) (fun K hK => ?_)
    go_simp; refine (unless_calls _ _ _).mono ?_; rintro e w' ⟨rfl, rfl⟩; go_wp2_with fail
    refine hK.out _ _ ?_ (fun hHeld => ?_)
    ·(exact HS.out _ (by first | assumption | exact hHeld.1 | exact below_step hHeld.1 (by first | assumption | exact below_alloc _ _)))
    clear hK K; try simp only [Act.put, sEt, sE0, sE1]
    refine take_to 20 29 (bQ 45 1730873917439) (v := ?_) o147_2_20 rfl o147_2_ns (by kernel_rfl) (by kernel_rfl) (fun _ _ _ h => h) (by rfl) ?y20011 (by assumption) ?_
    case y20011 => intro w h; (try dsimp only at h); go_simp; try with_reducible rfl
    simp only [sE0, sE1]; refine take_to 21 30 (bQ 45 1730876014591) (v := ?_) o147_2_21 rfl o147_2_ns (by kernel_rfl) (by kernel_rfl) (fun _ _ _ h => h) (by rfl) ?y21011 (by assumption) ?_
    case y21011 => intro w h; (try dsimp only at h); go_simp; try with_reducible rfl
    simp only [sE0, sE1]; refine take_to 22 31 (bQ 45 1730880208895) (v := ?_) o147_2_22 rfl o147_2_ns (by kernel_rfl) (by kernel_rfl) (fun _ _ _ h => h) (by rfl) ?y22011 (by assumption) ?_
    case y22011 => intro w h; (try dsimp only at h); go_simp; try with_reducible rfl
    simp only [sE0, sE1]; refine take_to 23 32 (bQ 45 1730888597503) (v := ?_) o147_2_23 rfl o147_2_ns (by kernel_rfl) (by kernel_rfl) (fun _ _ _ h => h) (by rfl) ?y23011 (by assumption) ?_
    case y23011 => intro w h; (try dsimp only at h); go_simp; try with_reducible rfl
    simp only [sE0, sE1]; refine take_to 24 33 (bQ 45 1730905374719) (v := ?_) o147_2_24 rfl o147_2_ns (by kernel_rfl) (by kernel_rfl) (fun _ _ _ h => h) (by rfl) ?y24011 (by assumption) ?_
    case y24011 => intro w h; (try dsimp only at h); go_simp; try with_reducible rfl
    simp only [sE0, sE1]; refine take_to 25 34 (bQ 45 1730938929151) (v := ?_) o147_2_25 rfl o147_2_ns (by kernel_rfl) (by kernel_rfl) (fun _ _ _ h => h) (by rfl) ?y25011 (by assumption) ?_
    case y25011 => intro w h; (try dsimp only at h); go_simp; try with_reducible rfl
    simp only [sE0, sE1]; refine take_to 26 35 (bQ 45 1731006038015) (v := ?_) o147_2_26 rfl o147_2_ns (by kernel_rfl) (by kernel_rfl) (fun _ _ _ h => h) (by rfl) ?y26011 (by assumption) ?_
    case y26011 => intro w h; (try dsimp only at h); go_simp; try with_reducible rfl
    simp only [sE0, sE1]; refine take_to 27 36 (bQ 45 1731140255743) (v := ?_) o147_2_27 rfl o147_2_ns (by kernel_rfl) (by kernel_rfl) (fun _ _ _ h => h) (by rfl) ?y27011 (by assumption) ?_
    case y27011 => intro w h; (try dsimp only at h); go_simp; try with_reducible rfl
    simp only [sE0, sE1]; refine take_to 28 37 (bQ 45 1731408691199) (v := ?_) o147_2_28 rfl o147_2_ns (by kernel_rfl) (by kernel_rfl) (fun _ _ _ h => h) (by rfl) ?y28011 (by assumption) ?_
    case y28011 => intro w h; (try dsimp only at h); go_simp; try with_reducible rfl
    simp only [sE0, sE1]; refine take_to 29 38 (bQ 45 1731945562111) (v := ?_) o147_2_29 rfl o147_2_ns (by kernel_rfl) (by kernel_rfl) (fun _ _ _ h => h) (by rfl) ?y29011 (by assumption) ?_
    case y29011 => intro w h; (try dsimp only at h); go_simp; try with_reducible rfl
    simp only [sE0, sE1]; refine take_to 30 39 (bQ 45 1733019303935) (v := ?_) o147_2_30 rfl o147_2_ns (by kernel_rfl) (by kernel_rfl) (fun _ _ _ h => h) (by rfl) ?y30011 (by assumption) ?_
    case y30011 => intro w h; (try dsimp only at h); go_simp; try with_reducible rfl
    simp only [sE0, sE1]; refine run_to 31 (bQ 45 1735166787583) o147_2_31 (by kernel_rfl) (by kernel_rfl) (by rfl) (fun K hK => ?_)
    go_simp; refine (unless_calls _ _ _).mono ?_; rintro e w' ⟨rfl, rfl⟩; go_wp2_with fail
    refine hK.out _ _ ?_ (fun hHeld => ?_)
    ·(exact HS.out _ (by first | assumption | exact hHeld.1 | exact below_step hHeld.1 (by first | assumption | exact below_alloc _ _)))
    clear hK K; try simp only [Act.put, sEt, sE0, sE1]
    refine run_to 34 (bQ 45 1752346656767) o147_2_34 (by kernel_rfl) (by kernel_rfl) (by rfl) (fun K hK => ?_)
    go_simp; refine (between_calls _ 1 4 _).mono ?_; rintro e w' ⟨rfl, rfl⟩; go_wp2_with fail
    refine hK.out _ _ ?_ (fun hHeld => ?_)
    ·(exact HS.out _ (by first | assumption | exact hHeld.1 | exact below_step hHeld.1 (by first | assumption | exact below_alloc _ _)))
    clear hK K; try simp only [Act.put, sEt, sE0, sE1]
    refine run_to 35 (bQ 45 1786706395135) o147_2_35 (by kernel_rfl) (by kernel_rfl) (by rfl) (fun K hK => ?_)
    go_simp; refine (unless_calls _ _ _).mono ?_; rintro e w' ⟨rfl, rfl⟩; go_wp2_with fail
    refine hK.out _ _ ?_ (fun hHeld => ?_)
    ·(exact HS.out _ (by first | assumption | exact hHeld.1 | exact below_step hHeld.1 (by first | assumption | exact below_alloc _ _)))
    clear hK K; try simp only [Act.put, sEt, sE0, sE1]
    refine run_to 37 (bQ 45 1924145348607) o147_2_37 (by kernel_rfl) (by kernel_rfl) (by rfl) (fun K hK => ?_)
    go_simp; refine (manyFits_calls r _).mono ?_; rintro e w' ⟨rfl, hb⟩; go_wp2_with fail
    refine hK.out _ _ ?_ (fun hHeld => ?_)
    ·(exact HS.out _ (by first | assumption | exact hHeld.1 | exact below_step hHeld.1 (by first | assumption | exact below_alloc _ _)))
    clear hK K; try simp only [Act.put, sEt, sE0, sE1]
    refine run_to 38 (bQ 45 2199023255551) o147_2_38 (by kernel_rfl) (by kernel_rfl) (by rfl) (fun K hK => ?_)
    go_simp; refine (unless_calls _ _ _).mono ?_; rintro e w' ⟨rfl, rfl⟩; go_wp2_with fail
    refine hK.out _ _ ?_ (fun hHeld => ?_)
    ·(exact HS.out _ (by first | assumption | exact hHeld.1 | exact below_step hHeld.1 (by first | assumption | exact below_alloc _ _)))
    clear hK K; try simp only [Act.put, sEt, sE0, sE1]
    refine run_to 41 (bQ 45 4398046511103) o147_2_41 (by kernel_rfl) (by kernel_rfl) (by rfl) (fun K hK => ?_)
    go_simp; refine (wrong_calls r.num r.den _ H6.out H7.out).mono ?_; rintro e w' ⟨rfl, hb⟩; go_wp2_with fail
    refine hK.out _ _ ?_ (fun hHeld => ?_)
    ·(exact HS.out _ (by first | assumption | exact hHeld.1 | exact below_step hHeld.1 (by first | assumption | exact below_alloc _ _)))
    clear hK K; try simp only [Act.put, sEt, sE0, sE1]
    refine run_to 42 (bQ 45 8796093022207) o147_2_42 (by kernel_rfl) (by kernel_rfl) (by rfl) (fun K hK => ?_)
    go_simp; refine hK.out _ _ ?_ (fun hHeld => ?_)
    ·(exact HS.out _ (by first | assumption | exact hHeld.1 | exact below_step hHeld.1 (by first | assumption | exact below_alloc _ _)))
    clear hK K; try simp only [Act.put, sEt, sE0, sE1]
    refine run_to 43 (bQ 45 17592186044415) o147_2_43 (by kernel_rfl) (by kernel_rfl) (by rfl) (fun K hK => ?_)
    go_simp; refine (orE_calls _ 0 6 [unlessE (keyB r.stat) 5, unlessE true 5, unlessE (ltS sp.key r.key) 7, unlessE (betwB r.kind 1 4) 4, unlessE (manyB r.kind r.many) 1, wrongF r.num r.den 10000] _ (by simp) (by exact nums6 _ _ _ _ _ _ _ _)).mono ?_
    rintro e w' ⟨rfl, rfl⟩; go_wp2_with fail
    refine hK.out _ _ ?_ (fun hHeld => ?_)
    ·(exact HS.out _ (by first | assumption | exact hHeld.1 | exact below_step hHeld.1 (by first | assumption | exact below_alloc _ _)))
    clear hK K; try simp only [Act.put, sEt, sE0, sE1]
    refine take_to 44 3 (bQ 45 35184372088831) (v := ?_) o147_2_44 rfl o147_2_ns (by kernel_rfl) (by kernel_rfl) (fun _ _ _ h => h) (by rfl) ?y44011 (by assumption) ?_
    case y44011 => intro w h; (try dsimp only at h); go_simp; try with_reducible rfl
    simp only [sE0, sE1]; refine wpAnyH_done (by kernel_rfl) ?_ _
    go_wp2_with fail
    go_ret
    exact ⟨ret_int Hr.out.symm, below_step hwW hHeld.1⟩
   ·have ep : r.pos.toList.isEmpty = false := by rw [HE.out]; simp [hp]
    have Hr := Lib.hid (show rlF rs i = firstE [unlessE (keyB r.stat) 5, unlessE (keyB r.pos) 5, unlessE (ltS sp.key r.key) 7, unlessE (betwB r.kind 1 4) 4, unlessE (manyB r.kind r.many) 1, wrongF r.num r.den 10000] by rw [rlF, rlAt_some hi, rlAt_some hsp]; simp [hp, HK.out, hz])
    clear hk hp hi hz c1 x0 x1 x2 x3 x4 x5 x6 hR hcell HS0 r0 r0W hsp; go_enter Tryz.func147, Tryz.ntmps147; go_upto_region 2 with fail
    rw [← hW]; clear hW; show Code.wp _ (Code.region 2 o147_2 true) _ _ _
    refine region_start 45 (fun w' => Below W.heap.size W w' ∧ w'.cell? ⟨c, 0, none⟩ = some (.slice (some ⟨g, off, none⟩) rs.length cap) ∧ w'.cell? ⟨w.heap.size, 0, none⟩ = some (.string r.key) ∧ w'.cell? ⟨w.heap.size, 1, none⟩ = some (.string r.stat) ∧ w'.cell? ⟨w.heap.size, 2, none⟩ = some (.string r.pos) ∧ w'.cell? ⟨w.heap.size, 3, none⟩ = some (.int .i64 r.kind) ∧ w'.cell? ⟨w.heap.size, 4, none⟩ = some (.int .i64 r.many) ∧ w'.cell? ⟨w.heap.size, 5, none⟩ = some (.int .i64 r.num) ∧ w'.cell? ⟨w.heap.size, 6, none⟩ = some (.int .i64 r.den) ∧ w'.cell? ⟨g, off + (i - 1) * 7, none⟩ = some (.string sp.key)) (by kernel_rfl) rfl ?_ (fun hHeld => ?_)
    ·(exact HS.out _ (by first | assumption | exact hHeld.1 | exact below_step hHeld.1 (by first | assumption | exact below_alloc _ _)))
    refine take_to 0 9 (bQ 45 1) (v := ?_) o147_2_0 rfl o147_2_ns (by kernel_rfl) (by kernel_rfl) (fun _ _ _ h => h) (by rfl) ?y0010 (by assumption) ?_
    case y0010 => intro w h; (try dsimp only at h); go_simp; try with_reducible rfl
    simp only [sE0, sE1]; refine take_to 1 10 (bQ 45 3) (v := ?_) o147_2_1 rfl o147_2_ns (by kernel_rfl) (by kernel_rfl) (fun _ _ _ h => h) (by rfl) ?y1010 (by assumption) ?_
    case y1010 => intro w h; (try dsimp only at h); go_simp; try with_reducible rfl
    simp only [sE0, sE1]; refine take_to 9 18 (bQ 45 515) (v := ?_) o147_2_9 rfl o147_2_ns (by kernel_rfl) (by kernel_rfl) (fun _ _ _ h => h) (by rfl) ?y9010 (by assumption) ?_
    case y9010 => intro w h; (try dsimp only at h); go_simp; try with_reducible rfl
    simp only [sE0, sE1]; refine take_to 10 19 (bQ 45 1539) (v := ?_) o147_2_10 rfl o147_2_ns (by kernel_rfl) (by kernel_rfl) (fun _ _ _ h => h) (by rfl) ?y10010 (by assumption) ?_
    case y10010 => intro w h; (try dsimp only at h); go_simp; try with_reducible rfl
    simp only [sE0, sE1]; refine take_to 11 20 (bQ 45 3587) (v := ?_) o147_2_11 rfl o147_2_ns (by kernel_rfl) (by kernel_rfl) (fun _ _ _ h => h) (by rfl) ?y11010 (by assumption) ?_
    case y11010 => intro w h; (try dsimp only at h); go_simp; try with_reducible rfl
    simp only [sE0, sE1]; refine take_to 18 27 (bQ 45 265731) (v := ?_) o147_2_18 rfl o147_2_ns (by kernel_rfl) (by kernel_rfl) (fun _ _ _ h => h) (by rfl) ?y18010 (by assumption) ?_
    case y18010 => intro w h; (try dsimp only at h); go_simp; try with_reducible rfl
    simp only [sE0, sE1]; refine take_to 19 28 (bQ 45 790019) (v := ?_) o147_2_19 rfl o147_2_ns (by kernel_rfl) (by kernel_rfl) (fun _ _ _ h => h) (by rfl) ?y19010 (by assumption) ?_
    case y19010 => intro w h; (try dsimp only at h); go_simp; try with_reducible rfl
    simp only [sE0, sE1]; refine take_to 32 41 (bQ 45 4295757315) (v := ?_) o147_2_32 rfl o147_2_ns (by kernel_rfl) (by kernel_rfl) (fun _ _ _ h => h) (by rfl) ?y32010 (by assumption) ?_
    case y32010 => intro w h; (try dsimp only at h); go_simp; try with_reducible rfl
    simp only [sE0, sE1]; refine take_to 33 42 (bQ 45 12885691907) (v := ?_) o147_2_33 rfl o147_2_ns (by kernel_rfl) (by kernel_rfl) (fun _ _ _ h => h) (by rfl) ?y33010 (by assumption) ?_
    case y33010 => intro w h; (try dsimp only at h); go_simp; try with_reducible rfl
    simp only [sE0, sE1]; refine take_to 36 45 (bQ 45 81605168643) (v := ?_) o147_2_36 rfl o147_2_ns (by kernel_rfl) (by kernel_rfl) (fun _ _ _ h => h) (by rfl) ?y36010 (by assumption) ?_
    case y36010 => intro w h; (try dsimp only at h); go_simp; try with_reducible rfl
    simp only [sE0, sE1]; refine take_to 39 48 (bQ 45 631360982531) (v := ?_) o147_2_39 rfl o147_2_ns (by kernel_rfl) (by kernel_rfl) (fun _ _ _ h => h) (by rfl) ?y39010 (by assumption) ?_
    case y39010 => intro w h; (try dsimp only at h); go_simp; try with_reducible rfl
    simp only [sE0, sE1]; refine take_to 40 49 (bQ 45 1730872610307) (v := ?_) o147_2_40 rfl o147_2_ns (by kernel_rfl) (by kernel_rfl) (fun _ _ _ h => h) (by rfl) ?y40010 (by assumption) ?_
    case y40010 => intro w h; (try dsimp only at h); go_simp; try with_reducible rfl
    simp only [sE0, sE1]; refine run_to 2 (bQ 45 1730872610311) o147_2_2 (by kernel_rfl) (by kernel_rfl) (by rfl) (fun K hK => ?_)
    go_simp; refine (key_calls _ _ (by omega)).mono ?_
    rintro e w' ⟨rfl, rfl⟩; rw [HK.out]; go_wp2_with fail
    refine hK.out _ _ ?_ (fun hHeld => ?_)
    ·(exact HS.out _ (by first | assumption | exact hHeld.1 | exact below_step hHeld.1 (by first | assumption | exact below_alloc _ _)))
    clear hK K; try simp only [Act.put, sEt, sE0, sE1]
    refine take_to 3 12 (bQ 45 1730872610319) (v := ?_) o147_2_3 rfl o147_2_ns (by kernel_rfl) (by kernel_rfl) (fun _ _ _ h => h) (by rfl) ?y3010 (by assumption) ?_
    case y3010 => intro w h; (try dsimp only at h); go_simp; try with_reducible rfl
    simp only [sE0, sE1]; refine take_to 4 13 (bQ 45 1730872610335) (v := ?_) o147_2_4 rfl o147_2_ns (by kernel_rfl) (by kernel_rfl) (fun _ _ _ h => h) (by rfl) ?y4010 (by assumption) ?_
    case y4010 => intro w h; (try dsimp only at h); go_simp; try with_reducible rfl
    simp only [sE0, sE1]; refine take_to 5 14 (bQ 45 1730872610367) (v := ?_) o147_2_5 rfl o147_2_ns (by kernel_rfl) (by kernel_rfl) (fun _ _ _ h => h) (by rfl) ?y5010 (by assumption) ?_
    case y5010 => intro w h; (try dsimp only at h); go_simp; try with_reducible rfl
    simp only [sE0, sE1]; refine run_to 6 (bQ 45 1730872610431) o147_2_6 (by kernel_rfl) (by kernel_rfl) (by rfl) (fun K hK => ?_)
    go_simp; refine (key_calls _ _ (by omega)).mono ?_
    rintro e w' ⟨rfl, rfl⟩; go_wp2_with fail
    refine hK.out _ _ ?_ (fun hHeld => ?_)
    ·(exact HS.out _ (by first | assumption | exact hHeld.1 | exact below_step hHeld.1 (by first | assumption | exact below_alloc _ _)))
    clear hK K; try simp only [Act.put, sEt, sE0, sE1]
    refine take_to 7 16 (bQ 45 1730872610559) (v := ?_) o147_2_7 rfl o147_2_ns (by kernel_rfl) (by kernel_rfl) (fun _ _ _ h => h) (by rfl) ?y7010 (by assumption) ?_
    case y7010 => intro w h; (try dsimp only at h); go_simp; try with_reducible rfl
    simp only [sE0, sE1]; refine run_to 8 (bQ 45 1730872610815) o147_2_8 (by kernel_rfl) (by kernel_rfl) (by rfl) (fun K hK => ?_)
    go_simp; refine (unless_calls _ _ _).mono ?_; rintro e w' ⟨rfl, rfl⟩; go_wp2_with fail
    refine hK.out _ _ ?_ (fun hHeld => ?_)
    ·(exact HS.out _ (by first | assumption | exact hHeld.1 | exact below_step hHeld.1 (by first | assumption | exact below_alloc _ _)))
    clear hK K; try simp only [Act.put, sEt, sE0, sE1]
    refine take_to 12 21 (bQ 45 1730872614911) (v := ?_) o147_2_12 rfl o147_2_ns (by kernel_rfl) (by kernel_rfl) (fun _ _ _ h => h) (by rfl) ?y12010 (by assumption) ?_
    case y12010 => intro w h; (try dsimp only at h); go_simp; try with_reducible rfl
    simp only [sE0, sE1]; refine take_to 13 22 (bQ 45 1730872623103) (v := ?_) o147_2_13 rfl o147_2_ns (by kernel_rfl) (by kernel_rfl) (fun _ _ _ h => h) (by rfl) ?y13010 (by assumption) ?_
    case y13010 => intro w h; (try dsimp only at h); go_simp; try with_reducible rfl
    simp only [sE0, sE1]; refine take_to 14 23 (bQ 45 1730872639487) (v := ?_) o147_2_14 rfl o147_2_ns (by kernel_rfl) (by kernel_rfl) (fun _ _ _ h => h) (by rfl) ?y14010 (by assumption) ?_
    case y14010 => intro w h; (try dsimp only at h); go_simp; try with_reducible rfl
    simp only [sE0, sE1]; refine run_to 15 (bQ 45 1730872672255) o147_2_15 (by kernel_rfl) (by kernel_rfl) (by rfl) (fun K hK => ?_)
    go_simp; refine (key_calls _ _ (by omega)).mono ?_
    rintro e w' ⟨rfl, rfl⟩; go_wp2_with fail
    refine hK.out _ _ ?_ (fun hHeld => ?_)
    ·(exact HS.out _ (by first | assumption | exact hHeld.1 | exact below_step hHeld.1 (by first | assumption | exact below_alloc _ _)))
    clear hK K; try simp only [Act.put, sEt, sE0, sE1]
    refine take_to 16 25 (bQ 45 1730872737791) (v := ?_) o147_2_16 rfl o147_2_ns (by kernel_rfl) (by kernel_rfl) (fun _ _ _ h => h) (by rfl) ?y16010 (by assumption) ?_
    case y16010 => intro w h; (try dsimp only at h); go_simp; try with_reducible rfl
    simp only [sE0, sE1]; refine run_to 17 (bQ 45 1730872868863) o147_2_17 (by kernel_rfl) (by kernel_rfl) (by rfl) (fun K hK => ?_)
    go_simp; refine (unless_calls _ _ _).mono ?_; rintro e w' ⟨rfl, rfl⟩; go_wp2_with fail
    refine hK.out _ _ ?_ (fun hHeld => ?_)
    ·(exact HS.out _ (by first | assumption | exact hHeld.1 | exact below_step hHeld.1 (by first | assumption | exact below_alloc _ _)))
    clear hK K; try simp only [Act.put, sEt, sE0, sE1]
    refine take_to 20 29 (bQ 45 1730873917439) (v := ?_) o147_2_20 rfl o147_2_ns (by kernel_rfl) (by kernel_rfl) (fun _ _ _ h => h) (by rfl) ?y20010 (by assumption) ?_
    case y20010 => intro w h; (try dsimp only at h); go_simp; try with_reducible rfl
    simp only [sE0, sE1]; refine take_to 21 30 (bQ 45 1730876014591) (v := ?_) o147_2_21 rfl o147_2_ns (by kernel_rfl) (by kernel_rfl) (fun _ _ _ h => h) (by rfl) ?y21010 (by assumption) ?_
    case y21010 => intro w h; (try dsimp only at h); go_simp; try with_reducible rfl
    simp only [sE0, sE1]; refine take_to 22 31 (bQ 45 1730880208895) (v := ?_) o147_2_22 rfl o147_2_ns (by kernel_rfl) (by kernel_rfl) (fun _ _ _ h => h) (by rfl) ?y22010 (by assumption) ?_
    case y22010 => intro w h; (try dsimp only at h); go_simp; try with_reducible rfl
    simp only [sE0, sE1]; refine take_to 23 32 (bQ 45 1730888597503) (v := ?_) o147_2_23 rfl o147_2_ns (by kernel_rfl) (by kernel_rfl) (fun _ _ _ h => h) (by rfl) ?y23010 (by assumption) ?_
    case y23010 => intro w h; (try dsimp only at h); go_simp; try with_reducible rfl
    simp only [sE0, sE1]; refine take_to 24 33 (bQ 45 1730905374719) (v := ?_) o147_2_24 rfl o147_2_ns (by kernel_rfl) (by kernel_rfl) (fun _ _ _ h => h) (by rfl) ?y24010 (by assumption) ?_
    case y24010 => intro w h; (try dsimp only at h); go_simp; try with_reducible rfl
    simp only [sE0, sE1]; refine take_to 25 34 (bQ 45 1730938929151) (v := ?_) o147_2_25 rfl o147_2_ns (by kernel_rfl) (by kernel_rfl) (fun _ _ _ h => h) (by rfl) ?y25010 (by assumption) ?_
    case y25010 => intro w h; (try dsimp only at h); go_simp; try with_reducible rfl
    simp only [sE0, sE1]; refine take_to 26 35 (bQ 45 1731006038015) (v := ?_) o147_2_26 rfl o147_2_ns (by kernel_rfl) (by kernel_rfl) (fun _ _ _ h => h) (by rfl) ?y26010 (by assumption) ?_
    case y26010 => intro w h; (try dsimp only at h); go_simp; try with_reducible rfl
    simp only [sE0, sE1]; refine take_to 27 36 (bQ 45 1731140255743) (v := ?_) o147_2_27 rfl o147_2_ns (by kernel_rfl) (by kernel_rfl) (fun _ _ _ h => h) (by rfl) ?y27010 (by assumption) ?_
    case y27010 => intro w h; (try dsimp only at h); go_simp; try with_reducible rfl
    simp only [sE0, sE1]; refine take_to 28 37 (bQ 45 1731408691199) (v := ?_) o147_2_28 rfl o147_2_ns (by kernel_rfl) (by kernel_rfl) (fun _ _ _ h => h) (by rfl) ?y28010 (by assumption) ?_
    case y28010 => intro w h; (try dsimp only at h); go_simp; try with_reducible rfl
    simp only [sE0, sE1]; refine take_to 29 38 (bQ 45 1731945562111) (v := ?_) o147_2_29 rfl o147_2_ns (by kernel_rfl) (by kernel_rfl) (fun _ _ _ h => h) (by rfl) ?y29010 (by assumption) ?_
    case y29010 => intro w h; (try dsimp only at h); go_simp; try with_reducible rfl
    simp only [sE0, sE1]; refine take_to 30 39 (bQ 45 1733019303935) (v := ?_) o147_2_30 rfl o147_2_ns (by kernel_rfl) (by kernel_rfl) (fun _ _ _ h => h) (by rfl) ?y30010 (by assumption) ?_
    case y30010 => intro w h; (try dsimp only at h); go_simp; try with_reducible rfl
    simp only [sE0, sE1]; refine run_to 31 (bQ 45 1735166787583) o147_2_31 (by kernel_rfl) (by kernel_rfl) (by rfl) (fun K hK => ?_)
    go_simp; refine (unless_calls _ _ _).mono ?_; rintro e w' ⟨rfl, rfl⟩; go_wp2_with fail
    refine hK.out _ _ ?_ (fun hHeld => ?_)
    ·(exact HS.out _ (by first | assumption | exact hHeld.1 | exact below_step hHeld.1 (by first | assumption | exact below_alloc _ _)))
    clear hK K; try simp only [Act.put, sEt, sE0, sE1]
    refine run_to 34 (bQ 45 1752346656767) o147_2_34 (by kernel_rfl) (by kernel_rfl) (by rfl) (fun K hK => ?_)
    go_simp; refine (between_calls _ 1 4 _).mono ?_; rintro e w' ⟨rfl, rfl⟩; go_wp2_with fail
    refine hK.out _ _ ?_ (fun hHeld => ?_)
    ·(exact HS.out _ (by first | assumption | exact hHeld.1 | exact below_step hHeld.1 (by first | assumption | exact below_alloc _ _)))
    clear hK K; try simp only [Act.put, sEt, sE0, sE1]
    refine run_to 35 (bQ 45 1786706395135) o147_2_35 (by kernel_rfl) (by kernel_rfl) (by rfl) (fun K hK => ?_)
    go_simp; refine (unless_calls _ _ _).mono ?_; rintro e w' ⟨rfl, rfl⟩; go_wp2_with fail
    refine hK.out _ _ ?_ (fun hHeld => ?_)
    ·(exact HS.out _ (by first | assumption | exact hHeld.1 | exact below_step hHeld.1 (by first | assumption | exact below_alloc _ _)))
    clear hK K; try simp only [Act.put, sEt, sE0, sE1]
    refine run_to 37 (bQ 45 1924145348607) o147_2_37 (by kernel_rfl) (by kernel_rfl) (by rfl) (fun K hK => ?_)
    go_simp; refine (manyFits_calls r _).mono ?_; rintro e w' ⟨rfl, hb⟩; go_wp2_with fail
    refine hK.out _ _ ?_ (fun hHeld => ?_)
    ·(exact HS.out _ (by first | assumption | exact hHeld.1 | exact below_step hHeld.1 (by first | assumption | exact below_alloc _ _)))
    clear hK K; try simp only [Act.put, sEt, sE0, sE1]
    refine run_to 38 (bQ 45 2199023255551) o147_2_38 (by kernel_rfl) (by kernel_rfl) (by rfl) (fun K hK => ?_)
    go_simp; refine (unless_calls _ _ _).mono ?_; rintro e w' ⟨rfl, rfl⟩; go_wp2_with fail
    refine hK.out _ _ ?_ (fun hHeld => ?_)
    ·(exact HS.out _ (by first | assumption | exact hHeld.1 | exact below_step hHeld.1 (by first | assumption | exact below_alloc _ _)))
    clear hK K; try simp only [Act.put, sEt, sE0, sE1]
    refine run_to 41 (bQ 45 4398046511103) o147_2_41 (by kernel_rfl) (by kernel_rfl) (by rfl) (fun K hK => ?_)
    go_simp; refine (wrong_calls r.num r.den _ H6.out H7.out).mono ?_; rintro e w' ⟨rfl, hb⟩; go_wp2_with fail
    refine hK.out _ _ ?_ (fun hHeld => ?_)
    ·(exact HS.out _ (by first | assumption | exact hHeld.1 | exact below_step hHeld.1 (by first | assumption | exact below_alloc _ _)))
    clear hK K; try simp only [Act.put, sEt, sE0, sE1]
    refine run_to 42 (bQ 45 8796093022207) o147_2_42 (by kernel_rfl) (by kernel_rfl) (by rfl) (fun K hK => ?_)
    go_simp; refine hK.out _ _ ?_ (fun hHeld => ?_)
    ·(exact HS.out _ (by first | assumption | exact hHeld.1 | exact below_step hHeld.1 (by first | assumption | exact below_alloc _ _)))
    clear hK K; try simp only [Act.put, sEt, sE0, sE1]
    refine run_to 43 (bQ 45 17592186044415) o147_2_43 (by kernel_rfl) (by kernel_rfl) (by rfl) (fun K hK => ?_)
    go_simp; refine (orE_calls _ 0 6 [unlessE (keyB r.stat) 5, unlessE (keyB r.pos) 5, unlessE (ltS sp.key r.key) 7, unlessE (betwB r.kind 1 4) 4, unlessE (manyB r.kind r.many) 1, wrongF r.num r.den 10000] _ (by simp) (by exact nums6 _ _ _ _ _ _ _ _)).mono ?_
    rintro e w' ⟨rfl, rfl⟩; go_wp2_with fail
    refine hK.out _ _ ?_ (fun hHeld => ?_)
    ·(exact HS.out _ (by first | assumption | exact hHeld.1 | exact below_step hHeld.1 (by first | assumption | exact below_alloc _ _)))
    clear hK K; try simp only [Act.put, sEt, sE0, sE1]
    refine take_to 44 3 (bQ 45 35184372088831) (v := ?_) o147_2_44 rfl o147_2_ns (by kernel_rfl) (by kernel_rfl) (fun _ _ _ h => h) (by rfl) ?y44010 (by assumption) ?_
    case y44010 => intro w h; (try dsimp only at h); go_simp; try with_reducible rfl
    simp only [sE0, sE1]; refine wpAnyH_done (by kernel_rfl) ?_ _
    go_wp2_with fail
    go_ret
    exact ⟨ret_int Hr.out.symm, below_step hwW hHeld.1⟩
  ·have HK := Lib.hid (show keyB r.key = false from by simpa using hk)
   by_cases hp : r.pos.size = 0
   ·have ep : r.pos.toList.isEmpty = true := by rw [HE.out]; simp [hp]
    have Hr := Lib.hid (show rlF rs i = firstE [unlessE false 5, unlessE true 5, unlessE (ltS sp.key r.key) 7, unlessE (betwB r.kind 1 4) 4, unlessE (manyB r.kind r.many) 1, wrongF r.num r.den 10000] by rw [rlF, rlAt_some hi, rlAt_some hsp]; simp [hp, HK.out, hz])
    clear hk hp hi hz c1 x0 x1 x2 x3 x4 x5 x6 hR hcell HS0 r0 r0W hsp; go_enter Tryz.func147, Tryz.ntmps147; go_upto_region 2 with fail
    rw [← hW]; clear hW; show Code.wp _ (Code.region 2 o147_2 true) _ _ _
    refine region_start 45 (fun w' => Below W.heap.size W w' ∧ w'.cell? ⟨c, 0, none⟩ = some (.slice (some ⟨g, off, none⟩) rs.length cap) ∧ w'.cell? ⟨w.heap.size, 0, none⟩ = some (.string r.key) ∧ w'.cell? ⟨w.heap.size, 1, none⟩ = some (.string r.stat) ∧ w'.cell? ⟨w.heap.size, 2, none⟩ = some (.string r.pos) ∧ w'.cell? ⟨w.heap.size, 3, none⟩ = some (.int .i64 r.kind) ∧ w'.cell? ⟨w.heap.size, 4, none⟩ = some (.int .i64 r.many) ∧ w'.cell? ⟨w.heap.size, 5, none⟩ = some (.int .i64 r.num) ∧ w'.cell? ⟨w.heap.size, 6, none⟩ = some (.int .i64 r.den) ∧ w'.cell? ⟨g, off + (i - 1) * 7, none⟩ = some (.string sp.key)) (by kernel_rfl) rfl ?_ (fun hHeld => ?_)
    ·(exact HS.out _ (by first | assumption | exact hHeld.1 | exact below_step hHeld.1 (by first | assumption | exact below_alloc _ _)))
    refine take_to 0 9 (bQ 45 1) (v := ?_) o147_2_0 rfl o147_2_ns (by kernel_rfl) (by kernel_rfl) (fun _ _ _ h => h) (by rfl) ?y0001 (by assumption) ?_
    case y0001 => intro w h; (try dsimp only at h); go_simp; try with_reducible rfl
    simp only [sE0, sE1]; refine take_to 1 10 (bQ 45 3) (v := ?_) o147_2_1 rfl o147_2_ns (by kernel_rfl) (by kernel_rfl) (fun _ _ _ h => h) (by rfl) ?y1001 (by assumption) ?_
    case y1001 => intro w h; (try dsimp only at h); go_simp; try with_reducible rfl
    simp only [sE0, sE1]; refine take_to 9 18 (bQ 45 515) (v := ?_) o147_2_9 rfl o147_2_ns (by kernel_rfl) (by kernel_rfl) (fun _ _ _ h => h) (by rfl) ?y9001 (by assumption) ?_
    case y9001 => intro w h; (try dsimp only at h); go_simp; try with_reducible rfl
    simp only [sE0, sE1]; refine take_to 10 19 (bQ 45 1539) (v := ?_) o147_2_10 rfl o147_2_ns (by kernel_rfl) (by kernel_rfl) (fun _ _ _ h => h) (by rfl) ?y10001 (by assumption) ?_
    case y10001 => intro w h; (try dsimp only at h); go_simp; try with_reducible rfl
    simp only [sE0, sE1]; refine take_to 11 20 (bQ 45 3587) (v := ?_) o147_2_11 rfl o147_2_ns (by kernel_rfl) (by kernel_rfl) (fun _ _ _ h => h) (by rfl) ?y11001 (by assumption) ?_
    case y11001 => intro w h; (try dsimp only at h); go_simp; try with_reducible rfl
    simp only [sE0, sE1]; refine take_to 18 27 (bQ 45 265731) (v := ?_) o147_2_18 rfl o147_2_ns (by kernel_rfl) (by kernel_rfl) (fun _ _ _ h => h) (by rfl) ?y18001 (by assumption) ?_
    case y18001 => intro w h; (try dsimp only at h); go_simp; try with_reducible rfl
    simp only [sE0, sE1]; refine take_to 19 28 (bQ 45 790019) (v := ?_) o147_2_19 rfl o147_2_ns (by kernel_rfl) (by kernel_rfl) (fun _ _ _ h => h) (by rfl) ?y19001 (by assumption) ?_
    case y19001 => intro w h; (try dsimp only at h); go_simp; try with_reducible rfl
    simp only [sE0, sE1]; refine take_to 32 41 (bQ 45 4295757315) (v := ?_) o147_2_32 rfl o147_2_ns (by kernel_rfl) (by kernel_rfl) (fun _ _ _ h => h) (by rfl) ?y32001 (by assumption) ?_
    case y32001 => intro w h; (try dsimp only at h); go_simp; try with_reducible rfl
    simp only [sE0, sE1]; refine take_to 33 42 (bQ 45 12885691907) (v := ?_) o147_2_33 rfl o147_2_ns (by kernel_rfl) (by kernel_rfl) (fun _ _ _ h => h) (by rfl) ?y33001 (by assumption) ?_
    case y33001 => intro w h; (try dsimp only at h); go_simp; try with_reducible rfl
    simp only [sE0, sE1]; refine take_to 36 45 (bQ 45 81605168643) (v := ?_) o147_2_36 rfl o147_2_ns (by kernel_rfl) (by kernel_rfl) (fun _ _ _ h => h) (by rfl) ?y36001 (by assumption) ?_
    case y36001 => intro w h; (try dsimp only at h); go_simp; try with_reducible rfl
    simp only [sE0, sE1]; refine take_to 39 48 (bQ 45 631360982531) (v := ?_) o147_2_39 rfl o147_2_ns (by kernel_rfl) (by kernel_rfl) (fun _ _ _ h => h) (by rfl) ?y39001 (by assumption) ?_
    case y39001 => intro w h; (try dsimp only at h); go_simp; try with_reducible rfl
    simp only [sE0, sE1]; refine take_to 40 49 (bQ 45 1730872610307) (v := ?_) o147_2_40 rfl o147_2_ns (by kernel_rfl) (by kernel_rfl) (fun _ _ _ h => h) (by rfl) ?y40001 (by assumption) ?_
    case y40001 => intro w h; (try dsimp only at h); go_simp; try with_reducible rfl
    simp only [sE0, sE1]; refine run_to 2 (bQ 45 1730872610311) o147_2_2 (by kernel_rfl) (by kernel_rfl) (by rfl) (fun K hK => ?_)
    go_simp; refine (key_calls _ _ (by omega)).mono ?_
    rintro e w' ⟨rfl, rfl⟩; rw [HK.out]; go_wp2_with fail
    refine hK.out _ _ ?_ (fun hHeld => ?_)
    ·(exact HS.out _ (by first | assumption | exact hHeld.1 | exact below_step hHeld.1 (by first | assumption | exact below_alloc _ _)))
    clear hK K; try simp only [Act.put, sEt, sE0, sE1]
    refine take_to 3 12 (bQ 45 1730872610319) (v := ?_) o147_2_3 rfl o147_2_ns (by kernel_rfl) (by kernel_rfl) (fun _ _ _ h => h) (by rfl) ?y3001 (by assumption) ?_
    case y3001 => intro w h; (try dsimp only at h); go_simp; try with_reducible rfl
    simp only [sE0, sE1]; refine skip_to 4 13 (bQ 45 1730872610335) o147_2_4 rfl o147_2_ns (by kernel_rfl) (by kernel_rfl) (fun _ _ _ h => h) (by rfl) (by assumption) ?_
    simp only [sE0, sE1]; refine skip_to 5 14 (bQ 45 1730872610367) o147_2_5 rfl o147_2_ns (by kernel_rfl) (by kernel_rfl) (fun _ _ _ h => h) (by rfl) (by assumption) ?_
    simp only [sE0, sE1]; refine skip_to 6 15 (bQ 45 1730872610431) o147_2_6 rfl o147_2_ns (by kernel_rfl) (by kernel_rfl) (fun _ _ _ h => h) (by rfl) (by assumption) ?_
    simp only [sE0, sE1]; refine take_to 7 16 (bQ 45 1730872610559) (v := ?_) o147_2_7 rfl o147_2_ns (by kernel_rfl) (by kernel_rfl) (fun _ _ _ h => h) (by rfl) ?y7001 (by assumption) ?_
    case y7001 => intro w h; (try dsimp only at h); go_simp; try with_reducible rfl
    simp only [sE0, sE1]; refine run_to 8 (bQ 45 1730872610815) o147_2_8 (by kernel_rfl) (by kernel_rfl) (by rfl) (fun K hK => ?_)
    go_simp; refine (unless_calls _ _ _).mono ?_; rintro e w' ⟨rfl, rfl⟩; go_wp2_with fail
    refine hK.out _ _ ?_ (fun hHeld => ?_)
    ·(exact HS.out _ (by first | assumption | exact hHeld.1 | exact below_step hHeld.1 (by first | assumption | exact below_alloc _ _)))
    clear hK K; try simp only [Act.put, sEt, sE0, sE1]
    refine take_to 12 21 (bQ 45 1730872614911) (v := ?_) o147_2_12 rfl o147_2_ns (by kernel_rfl) (by kernel_rfl) (fun _ _ _ h => h) (by rfl) ?y12001 (by assumption) ?_
    case y12001 => intro w h; (try dsimp only at h); go_simp; try with_reducible rfl
    simp only [sE0, sE1]; refine skip_to 13 22 (bQ 45 1730872623103) o147_2_13 rfl o147_2_ns (by kernel_rfl) (by kernel_rfl) (fun _ _ _ h => h) (by rfl) (by assumption) ?_
    simp only [sE0, sE1]; refine skip_to 14 23 (bQ 45 1730872639487) o147_2_14 rfl o147_2_ns (by kernel_rfl) (by kernel_rfl) (fun _ _ _ h => h) (by rfl) (by assumption) ?_
    simp only [sE0, sE1]; refine skip_to 15 24 (bQ 45 1730872672255) o147_2_15 rfl o147_2_ns (by kernel_rfl) (by kernel_rfl) (fun _ _ _ h => h) (by rfl) (by assumption) ?_
    simp only [sE0, sE1]; refine take_to 16 25 (bQ 45 1730872737791) (v := ?_) o147_2_16 rfl o147_2_ns (by kernel_rfl) (by kernel_rfl) (fun _ _ _ h => h) (by rfl) ?y16001 (by assumption) ?_
    case y16001 => intro w h; (try dsimp only at h); go_simp; try with_reducible rfl
    simp only [sE0, sE1]; refine run_to 17 (bQ 45 1730872868863) o147_2_17 (by kernel_rfl) (by kernel_rfl) (by rfl) (fun K hK => ?_)
    go_simp; refine (unless_calls _ _ _).mono ?_; rintro e w' ⟨rfl, rfl⟩; go_wp2_with fail
    refine hK.out _ _ ?_ (fun hHeld => ?_)
    ·(exact HS.out _ (by first | assumption | exact hHeld.1 | exact below_step hHeld.1 (by first | assumption | exact below_alloc _ _)))
    clear hK K; try simp only [Act.put, sEt, sE0, sE1]
    refine take_to 20 29 (bQ 45 1730873917439) (v := ?_) o147_2_20 rfl o147_2_ns (by kernel_rfl) (by kernel_rfl) (fun _ _ _ h => h) (by rfl) ?y20001 (by assumption) ?_
    case y20001 => intro w h; (try dsimp only at h); go_simp; try with_reducible rfl
    simp only [sE0, sE1]; refine take_to 21 30 (bQ 45 1730876014591) (v := ?_) o147_2_21 rfl o147_2_ns (by kernel_rfl) (by kernel_rfl) (fun _ _ _ h => h) (by rfl) ?y21001 (by assumption) ?_
    case y21001 => intro w h; (try dsimp only at h); go_simp; try with_reducible rfl
    simp only [sE0, sE1]; refine take_to 22 31 (bQ 45 1730880208895) (v := ?_) o147_2_22 rfl o147_2_ns (by kernel_rfl) (by kernel_rfl) (fun _ _ _ h => h) (by rfl) ?y22001 (by assumption) ?_
    case y22001 => intro w h; (try dsimp only at h); go_simp; try with_reducible rfl
    simp only [sE0, sE1]; refine take_to 23 32 (bQ 45 1730888597503) (v := ?_) o147_2_23 rfl o147_2_ns (by kernel_rfl) (by kernel_rfl) (fun _ _ _ h => h) (by rfl) ?y23001 (by assumption) ?_
    case y23001 => intro w h; (try dsimp only at h); go_simp; try with_reducible rfl
    simp only [sE0, sE1]; refine take_to 24 33 (bQ 45 1730905374719) (v := ?_) o147_2_24 rfl o147_2_ns (by kernel_rfl) (by kernel_rfl) (fun _ _ _ h => h) (by rfl) ?y24001 (by assumption) ?_
    case y24001 => intro w h; (try dsimp only at h); go_simp; try with_reducible rfl
    simp only [sE0, sE1]; refine take_to 25 34 (bQ 45 1730938929151) (v := ?_) o147_2_25 rfl o147_2_ns (by kernel_rfl) (by kernel_rfl) (fun _ _ _ h => h) (by rfl) ?y25001 (by assumption) ?_
    case y25001 => intro w h; (try dsimp only at h); go_simp; try with_reducible rfl
    simp only [sE0, sE1]; refine take_to 26 35 (bQ 45 1731006038015) (v := ?_) o147_2_26 rfl o147_2_ns (by kernel_rfl) (by kernel_rfl) (fun _ _ _ h => h) (by rfl) ?y26001 (by assumption) ?_
    case y26001 => intro w h; (try dsimp only at h); go_simp; try with_reducible rfl
    simp only [sE0, sE1]; refine take_to 27 36 (bQ 45 1731140255743) (v := ?_) o147_2_27 rfl o147_2_ns (by kernel_rfl) (by kernel_rfl) (fun _ _ _ h => h) (by rfl) ?y27001 (by assumption) ?_
    case y27001 => intro w h; (try dsimp only at h); go_simp; try with_reducible rfl
    simp only [sE0, sE1]; refine take_to 28 37 (bQ 45 1731408691199) (v := ?_) o147_2_28 rfl o147_2_ns (by kernel_rfl) (by kernel_rfl) (fun _ _ _ h => h) (by rfl) ?y28001 (by assumption) ?_
    case y28001 => intro w h; (try dsimp only at h); go_simp; try with_reducible rfl
    simp only [sE0, sE1]; refine take_to 29 38 (bQ 45 1731945562111) (v := ?_) o147_2_29 rfl o147_2_ns (by kernel_rfl) (by kernel_rfl) (fun _ _ _ h => h) (by rfl) ?y29001 (by assumption) ?_
    case y29001 => intro w h; (try dsimp only at h); go_simp; try with_reducible rfl
    simp only [sE0, sE1]; refine take_to 30 39 (bQ 45 1733019303935) (v := ?_) o147_2_30 rfl o147_2_ns (by kernel_rfl) (by kernel_rfl) (fun _ _ _ h => h) (by rfl) ?y30001 (by assumption) ?_
    case y30001 => intro w h; (try dsimp only at h); go_simp; try with_reducible rfl
    simp only [sE0, sE1]; refine run_to 31 (bQ 45 1735166787583) o147_2_31 (by kernel_rfl) (by kernel_rfl) (by rfl) (fun K hK => ?_)
    go_simp; refine (unless_calls _ _ _).mono ?_; rintro e w' ⟨rfl, rfl⟩; go_wp2_with fail
    refine hK.out _ _ ?_ (fun hHeld => ?_)
    ·(exact HS.out _ (by first | assumption | exact hHeld.1 | exact below_step hHeld.1 (by first | assumption | exact below_alloc _ _)))
    clear hK K; try simp only [Act.put, sEt, sE0, sE1]
    refine run_to 34 (bQ 45 1752346656767) o147_2_34 (by kernel_rfl) (by kernel_rfl) (by rfl) (fun K hK => ?_)
    go_simp; refine (between_calls _ 1 4 _).mono ?_; rintro e w' ⟨rfl, rfl⟩; go_wp2_with fail
    refine hK.out _ _ ?_ (fun hHeld => ?_)
    ·(exact HS.out _ (by first | assumption | exact hHeld.1 | exact below_step hHeld.1 (by first | assumption | exact below_alloc _ _)))
    clear hK K; try simp only [Act.put, sEt, sE0, sE1]
    refine run_to 35 (bQ 45 1786706395135) o147_2_35 (by kernel_rfl) (by kernel_rfl) (by rfl) (fun K hK => ?_)
    go_simp; refine (unless_calls _ _ _).mono ?_; rintro e w' ⟨rfl, rfl⟩; go_wp2_with fail
    refine hK.out _ _ ?_ (fun hHeld => ?_)
    ·(exact HS.out _ (by first | assumption | exact hHeld.1 | exact below_step hHeld.1 (by first | assumption | exact below_alloc _ _)))
    clear hK K; try simp only [Act.put, sEt, sE0, sE1]
    refine run_to 37 (bQ 45 1924145348607) o147_2_37 (by kernel_rfl) (by kernel_rfl) (by rfl) (fun K hK => ?_)
    go_simp; refine (manyFits_calls r _).mono ?_; rintro e w' ⟨rfl, hb⟩; go_wp2_with fail
    refine hK.out _ _ ?_ (fun hHeld => ?_)
    ·(exact HS.out _ (by first | assumption | exact hHeld.1 | exact below_step hHeld.1 (by first | assumption | exact below_alloc _ _)))
    clear hK K; try simp only [Act.put, sEt, sE0, sE1]
    refine run_to 38 (bQ 45 2199023255551) o147_2_38 (by kernel_rfl) (by kernel_rfl) (by rfl) (fun K hK => ?_)
    go_simp; refine (unless_calls _ _ _).mono ?_; rintro e w' ⟨rfl, rfl⟩; go_wp2_with fail
    refine hK.out _ _ ?_ (fun hHeld => ?_)
    ·(exact HS.out _ (by first | assumption | exact hHeld.1 | exact below_step hHeld.1 (by first | assumption | exact below_alloc _ _)))
    clear hK K; try simp only [Act.put, sEt, sE0, sE1]
    refine run_to 41 (bQ 45 4398046511103) o147_2_41 (by kernel_rfl) (by kernel_rfl) (by rfl) (fun K hK => ?_)
    go_simp; refine (wrong_calls r.num r.den _ H6.out H7.out).mono ?_; rintro e w' ⟨rfl, hb⟩; go_wp2_with fail
    refine hK.out _ _ ?_ (fun hHeld => ?_)
    ·(exact HS.out _ (by first | assumption | exact hHeld.1 | exact below_step hHeld.1 (by first | assumption | exact below_alloc _ _)))
    clear hK K; try simp only [Act.put, sEt, sE0, sE1]
    refine run_to 42 (bQ 45 8796093022207) o147_2_42 (by kernel_rfl) (by kernel_rfl) (by rfl) (fun K hK => ?_)
    go_simp; refine hK.out _ _ ?_ (fun hHeld => ?_)
    ·(exact HS.out _ (by first | assumption | exact hHeld.1 | exact below_step hHeld.1 (by first | assumption | exact below_alloc _ _)))
    clear hK K; try simp only [Act.put, sEt, sE0, sE1]
    refine run_to 43 (bQ 45 17592186044415) o147_2_43 (by kernel_rfl) (by kernel_rfl) (by rfl) (fun K hK => ?_)
    go_simp; refine (orE_calls _ 0 6 [unlessE false 5, unlessE true 5, unlessE (ltS sp.key r.key) 7, unlessE (betwB r.kind 1 4) 4, unlessE (manyB r.kind r.many) 1, wrongF r.num r.den 10000] _ (by simp) (by exact nums6 _ _ _ _ _ _ _ _)).mono ?_
    rintro e w' ⟨rfl, rfl⟩; go_wp2_with fail
    refine hK.out _ _ ?_ (fun hHeld => ?_)
    ·(exact HS.out _ (by first | assumption | exact hHeld.1 | exact below_step hHeld.1 (by first | assumption | exact below_alloc _ _)))
    clear hK K; try simp only [Act.put, sEt, sE0, sE1]
    refine take_to 44 3 (bQ 45 35184372088831) (v := ?_) o147_2_44 rfl o147_2_ns (by kernel_rfl) (by kernel_rfl) (fun _ _ _ h => h) (by rfl) ?y44001 (by assumption) ?_
    case y44001 => intro w h; (try dsimp only at h); go_simp; try with_reducible rfl
    simp only [sE0, sE1]; refine wpAnyH_done (by kernel_rfl) ?_ _
    go_wp2_with fail
    go_ret
    exact ⟨ret_int Hr.out.symm, below_step hwW hHeld.1⟩
   ·have ep : r.pos.toList.isEmpty = false := by rw [HE.out]; simp [hp]
    have Hr := Lib.hid (show rlF rs i = firstE [unlessE false 5, unlessE (keyB r.pos) 5, unlessE (ltS sp.key r.key) 7, unlessE (betwB r.kind 1 4) 4, unlessE (manyB r.kind r.many) 1, wrongF r.num r.den 10000] by rw [rlF, rlAt_some hi, rlAt_some hsp]; simp [hp, HK.out, hz])
    clear hk hp hi hz c1 x0 x1 x2 x3 x4 x5 x6 hR hcell HS0 r0 r0W hsp; go_enter Tryz.func147, Tryz.ntmps147; go_upto_region 2 with fail
    rw [← hW]; clear hW; show Code.wp _ (Code.region 2 o147_2 true) _ _ _
    refine region_start 45 (fun w' => Below W.heap.size W w' ∧ w'.cell? ⟨c, 0, none⟩ = some (.slice (some ⟨g, off, none⟩) rs.length cap) ∧ w'.cell? ⟨w.heap.size, 0, none⟩ = some (.string r.key) ∧ w'.cell? ⟨w.heap.size, 1, none⟩ = some (.string r.stat) ∧ w'.cell? ⟨w.heap.size, 2, none⟩ = some (.string r.pos) ∧ w'.cell? ⟨w.heap.size, 3, none⟩ = some (.int .i64 r.kind) ∧ w'.cell? ⟨w.heap.size, 4, none⟩ = some (.int .i64 r.many) ∧ w'.cell? ⟨w.heap.size, 5, none⟩ = some (.int .i64 r.num) ∧ w'.cell? ⟨w.heap.size, 6, none⟩ = some (.int .i64 r.den) ∧ w'.cell? ⟨g, off + (i - 1) * 7, none⟩ = some (.string sp.key)) (by kernel_rfl) rfl ?_ (fun hHeld => ?_)
    ·(exact HS.out _ (by first | assumption | exact hHeld.1 | exact below_step hHeld.1 (by first | assumption | exact below_alloc _ _)))
    refine take_to 0 9 (bQ 45 1) (v := ?_) o147_2_0 rfl o147_2_ns (by kernel_rfl) (by kernel_rfl) (fun _ _ _ h => h) (by rfl) ?y0000 (by assumption) ?_
    case y0000 => intro w h; (try dsimp only at h); go_simp; try with_reducible rfl
    simp only [sE0, sE1]; refine take_to 1 10 (bQ 45 3) (v := ?_) o147_2_1 rfl o147_2_ns (by kernel_rfl) (by kernel_rfl) (fun _ _ _ h => h) (by rfl) ?y1000 (by assumption) ?_
    case y1000 => intro w h; (try dsimp only at h); go_simp; try with_reducible rfl
    simp only [sE0, sE1]; refine take_to 9 18 (bQ 45 515) (v := ?_) o147_2_9 rfl o147_2_ns (by kernel_rfl) (by kernel_rfl) (fun _ _ _ h => h) (by rfl) ?y9000 (by assumption) ?_
    case y9000 => intro w h; (try dsimp only at h); go_simp; try with_reducible rfl
    simp only [sE0, sE1]; refine take_to 10 19 (bQ 45 1539) (v := ?_) o147_2_10 rfl o147_2_ns (by kernel_rfl) (by kernel_rfl) (fun _ _ _ h => h) (by rfl) ?y10000 (by assumption) ?_
    case y10000 => intro w h; (try dsimp only at h); go_simp; try with_reducible rfl
    simp only [sE0, sE1]; refine take_to 11 20 (bQ 45 3587) (v := ?_) o147_2_11 rfl o147_2_ns (by kernel_rfl) (by kernel_rfl) (fun _ _ _ h => h) (by rfl) ?y11000 (by assumption) ?_
    case y11000 => intro w h; (try dsimp only at h); go_simp; try with_reducible rfl
    simp only [sE0, sE1]; refine take_to 18 27 (bQ 45 265731) (v := ?_) o147_2_18 rfl o147_2_ns (by kernel_rfl) (by kernel_rfl) (fun _ _ _ h => h) (by rfl) ?y18000 (by assumption) ?_
    case y18000 => intro w h; (try dsimp only at h); go_simp; try with_reducible rfl
    simp only [sE0, sE1]; refine take_to 19 28 (bQ 45 790019) (v := ?_) o147_2_19 rfl o147_2_ns (by kernel_rfl) (by kernel_rfl) (fun _ _ _ h => h) (by rfl) ?y19000 (by assumption) ?_
    case y19000 => intro w h; (try dsimp only at h); go_simp; try with_reducible rfl
    simp only [sE0, sE1]; refine take_to 32 41 (bQ 45 4295757315) (v := ?_) o147_2_32 rfl o147_2_ns (by kernel_rfl) (by kernel_rfl) (fun _ _ _ h => h) (by rfl) ?y32000 (by assumption) ?_
    case y32000 => intro w h; (try dsimp only at h); go_simp; try with_reducible rfl
    simp only [sE0, sE1]; refine take_to 33 42 (bQ 45 12885691907) (v := ?_) o147_2_33 rfl o147_2_ns (by kernel_rfl) (by kernel_rfl) (fun _ _ _ h => h) (by rfl) ?y33000 (by assumption) ?_
    case y33000 => intro w h; (try dsimp only at h); go_simp; try with_reducible rfl
    simp only [sE0, sE1]; refine take_to 36 45 (bQ 45 81605168643) (v := ?_) o147_2_36 rfl o147_2_ns (by kernel_rfl) (by kernel_rfl) (fun _ _ _ h => h) (by rfl) ?y36000 (by assumption) ?_
    case y36000 => intro w h; (try dsimp only at h); go_simp; try with_reducible rfl
    simp only [sE0, sE1]; refine take_to 39 48 (bQ 45 631360982531) (v := ?_) o147_2_39 rfl o147_2_ns (by kernel_rfl) (by kernel_rfl) (fun _ _ _ h => h) (by rfl) ?y39000 (by assumption) ?_
    case y39000 => intro w h; (try dsimp only at h); go_simp; try with_reducible rfl
    simp only [sE0, sE1]; refine take_to 40 49 (bQ 45 1730872610307) (v := ?_) o147_2_40 rfl o147_2_ns (by kernel_rfl) (by kernel_rfl) (fun _ _ _ h => h) (by rfl) ?y40000 (by assumption) ?_
    case y40000 => intro w h; (try dsimp only at h); go_simp; try with_reducible rfl
    simp only [sE0, sE1]; refine run_to 2 (bQ 45 1730872610311) o147_2_2 (by kernel_rfl) (by kernel_rfl) (by rfl) (fun K hK => ?_)
    go_simp; refine (key_calls _ _ (by omega)).mono ?_
    rintro e w' ⟨rfl, rfl⟩; rw [HK.out]; go_wp2_with fail
    refine hK.out _ _ ?_ (fun hHeld => ?_)
    ·(exact HS.out _ (by first | assumption | exact hHeld.1 | exact below_step hHeld.1 (by first | assumption | exact below_alloc _ _)))
    clear hK K; try simp only [Act.put, sEt, sE0, sE1]
    refine take_to 3 12 (bQ 45 1730872610319) (v := ?_) o147_2_3 rfl o147_2_ns (by kernel_rfl) (by kernel_rfl) (fun _ _ _ h => h) (by rfl) ?y3000 (by assumption) ?_
    case y3000 => intro w h; (try dsimp only at h); go_simp; try with_reducible rfl
    simp only [sE0, sE1]; refine skip_to 4 13 (bQ 45 1730872610335) o147_2_4 rfl o147_2_ns (by kernel_rfl) (by kernel_rfl) (fun _ _ _ h => h) (by rfl) (by assumption) ?_
    simp only [sE0, sE1]; refine skip_to 5 14 (bQ 45 1730872610367) o147_2_5 rfl o147_2_ns (by kernel_rfl) (by kernel_rfl) (fun _ _ _ h => h) (by rfl) (by assumption) ?_
    simp only [sE0, sE1]; refine skip_to 6 15 (bQ 45 1730872610431) o147_2_6 rfl o147_2_ns (by kernel_rfl) (by kernel_rfl) (fun _ _ _ h => h) (by rfl) (by assumption) ?_
    simp only [sE0, sE1]; refine take_to 7 16 (bQ 45 1730872610559) (v := ?_) o147_2_7 rfl o147_2_ns (by kernel_rfl) (by kernel_rfl) (fun _ _ _ h => h) (by rfl) ?y7000 (by assumption) ?_
    case y7000 => intro w h; (try dsimp only at h); go_simp; try with_reducible rfl
    simp only [sE0, sE1]; refine run_to 8 (bQ 45 1730872610815) o147_2_8 (by kernel_rfl) (by kernel_rfl) (by rfl) (fun K hK => ?_)
    go_simp; refine (unless_calls _ _ _).mono ?_; rintro e w' ⟨rfl, rfl⟩; go_wp2_with fail
    refine hK.out _ _ ?_ (fun hHeld => ?_)
    ·(exact HS.out _ (by first | assumption | exact hHeld.1 | exact below_step hHeld.1 (by first | assumption | exact below_alloc _ _)))
    clear hK K; try simp only [Act.put, sEt, sE0, sE1]
    refine take_to 12 21 (bQ 45 1730872614911) (v := ?_) o147_2_12 rfl o147_2_ns (by kernel_rfl) (by kernel_rfl) (fun _ _ _ h => h) (by rfl) ?y12000 (by assumption) ?_
    case y12000 => intro w h; (try dsimp only at h); go_simp; try with_reducible rfl
    simp only [sE0, sE1]; refine take_to 13 22 (bQ 45 1730872623103) (v := ?_) o147_2_13 rfl o147_2_ns (by kernel_rfl) (by kernel_rfl) (fun _ _ _ h => h) (by rfl) ?y13000 (by assumption) ?_
    case y13000 => intro w h; (try dsimp only at h); go_simp; try with_reducible rfl
    simp only [sE0, sE1]; refine take_to 14 23 (bQ 45 1730872639487) (v := ?_) o147_2_14 rfl o147_2_ns (by kernel_rfl) (by kernel_rfl) (fun _ _ _ h => h) (by rfl) ?y14000 (by assumption) ?_
    case y14000 => intro w h; (try dsimp only at h); go_simp; try with_reducible rfl
    simp only [sE0, sE1]; refine run_to 15 (bQ 45 1730872672255) o147_2_15 (by kernel_rfl) (by kernel_rfl) (by rfl) (fun K hK => ?_)
    go_simp; refine (key_calls _ _ (by omega)).mono ?_
    rintro e w' ⟨rfl, rfl⟩; go_wp2_with fail
    refine hK.out _ _ ?_ (fun hHeld => ?_)
    ·(exact HS.out _ (by first | assumption | exact hHeld.1 | exact below_step hHeld.1 (by first | assumption | exact below_alloc _ _)))
    clear hK K; try simp only [Act.put, sEt, sE0, sE1]
    refine take_to 16 25 (bQ 45 1730872737791) (v := ?_) o147_2_16 rfl o147_2_ns (by kernel_rfl) (by kernel_rfl) (fun _ _ _ h => h) (by rfl) ?y16000 (by assumption) ?_
    case y16000 => intro w h; (try dsimp only at h); go_simp; try with_reducible rfl
    simp only [sE0, sE1]; refine run_to 17 (bQ 45 1730872868863) o147_2_17 (by kernel_rfl) (by kernel_rfl) (by rfl) (fun K hK => ?_)
    go_simp; refine (unless_calls _ _ _).mono ?_; rintro e w' ⟨rfl, rfl⟩; go_wp2_with fail
    refine hK.out _ _ ?_ (fun hHeld => ?_)
    ·(exact HS.out _ (by first | assumption | exact hHeld.1 | exact below_step hHeld.1 (by first | assumption | exact below_alloc _ _)))
    clear hK K; try simp only [Act.put, sEt, sE0, sE1]
    refine take_to 20 29 (bQ 45 1730873917439) (v := ?_) o147_2_20 rfl o147_2_ns (by kernel_rfl) (by kernel_rfl) (fun _ _ _ h => h) (by rfl) ?y20000 (by assumption) ?_
    case y20000 => intro w h; (try dsimp only at h); go_simp; try with_reducible rfl
    simp only [sE0, sE1]; refine take_to 21 30 (bQ 45 1730876014591) (v := ?_) o147_2_21 rfl o147_2_ns (by kernel_rfl) (by kernel_rfl) (fun _ _ _ h => h) (by rfl) ?y21000 (by assumption) ?_
    case y21000 => intro w h; (try dsimp only at h); go_simp; try with_reducible rfl
    simp only [sE0, sE1]; refine take_to 22 31 (bQ 45 1730880208895) (v := ?_) o147_2_22 rfl o147_2_ns (by kernel_rfl) (by kernel_rfl) (fun _ _ _ h => h) (by rfl) ?y22000 (by assumption) ?_
    case y22000 => intro w h; (try dsimp only at h); go_simp; try with_reducible rfl
    simp only [sE0, sE1]; refine take_to 23 32 (bQ 45 1730888597503) (v := ?_) o147_2_23 rfl o147_2_ns (by kernel_rfl) (by kernel_rfl) (fun _ _ _ h => h) (by rfl) ?y23000 (by assumption) ?_
    case y23000 => intro w h; (try dsimp only at h); go_simp; try with_reducible rfl
    simp only [sE0, sE1]; refine take_to 24 33 (bQ 45 1730905374719) (v := ?_) o147_2_24 rfl o147_2_ns (by kernel_rfl) (by kernel_rfl) (fun _ _ _ h => h) (by rfl) ?y24000 (by assumption) ?_
    case y24000 => intro w h; (try dsimp only at h); go_simp; try with_reducible rfl
    simp only [sE0, sE1]; refine take_to 25 34 (bQ 45 1730938929151) (v := ?_) o147_2_25 rfl o147_2_ns (by kernel_rfl) (by kernel_rfl) (fun _ _ _ h => h) (by rfl) ?y25000 (by assumption) ?_
    case y25000 => intro w h; (try dsimp only at h); go_simp; try with_reducible rfl
    simp only [sE0, sE1]; refine take_to 26 35 (bQ 45 1731006038015) (v := ?_) o147_2_26 rfl o147_2_ns (by kernel_rfl) (by kernel_rfl) (fun _ _ _ h => h) (by rfl) ?y26000 (by assumption) ?_
    case y26000 => intro w h; (try dsimp only at h); go_simp; try with_reducible rfl
    simp only [sE0, sE1]; refine take_to 27 36 (bQ 45 1731140255743) (v := ?_) o147_2_27 rfl o147_2_ns (by kernel_rfl) (by kernel_rfl) (fun _ _ _ h => h) (by rfl) ?y27000 (by assumption) ?_
    case y27000 => intro w h; (try dsimp only at h); go_simp; try with_reducible rfl
    simp only [sE0, sE1]; refine take_to 28 37 (bQ 45 1731408691199) (v := ?_) o147_2_28 rfl o147_2_ns (by kernel_rfl) (by kernel_rfl) (fun _ _ _ h => h) (by rfl) ?y28000 (by assumption) ?_
    case y28000 => intro w h; (try dsimp only at h); go_simp; try with_reducible rfl
    simp only [sE0, sE1]; refine take_to 29 38 (bQ 45 1731945562111) (v := ?_) o147_2_29 rfl o147_2_ns (by kernel_rfl) (by kernel_rfl) (fun _ _ _ h => h) (by rfl) ?y29000 (by assumption) ?_
    case y29000 => intro w h; (try dsimp only at h); go_simp; try with_reducible rfl
    simp only [sE0, sE1]; refine take_to 30 39 (bQ 45 1733019303935) (v := ?_) o147_2_30 rfl o147_2_ns (by kernel_rfl) (by kernel_rfl) (fun _ _ _ h => h) (by rfl) ?y30000 (by assumption) ?_
    case y30000 => intro w h; (try dsimp only at h); go_simp; try with_reducible rfl
    simp only [sE0, sE1]; refine run_to 31 (bQ 45 1735166787583) o147_2_31 (by kernel_rfl) (by kernel_rfl) (by rfl) (fun K hK => ?_)
    go_simp; refine (unless_calls _ _ _).mono ?_; rintro e w' ⟨rfl, rfl⟩; go_wp2_with fail
    refine hK.out _ _ ?_ (fun hHeld => ?_)
    ·(exact HS.out _ (by first | assumption | exact hHeld.1 | exact below_step hHeld.1 (by first | assumption | exact below_alloc _ _)))
    clear hK K; try simp only [Act.put, sEt, sE0, sE1]
    refine run_to 34 (bQ 45 1752346656767) o147_2_34 (by kernel_rfl) (by kernel_rfl) (by rfl) (fun K hK => ?_)
    go_simp; refine (between_calls _ 1 4 _).mono ?_; rintro e w' ⟨rfl, rfl⟩; go_wp2_with fail
    refine hK.out _ _ ?_ (fun hHeld => ?_)
    ·(exact HS.out _ (by first | assumption | exact hHeld.1 | exact below_step hHeld.1 (by first | assumption | exact below_alloc _ _)))
    clear hK K; try simp only [Act.put, sEt, sE0, sE1]
    refine run_to 35 (bQ 45 1786706395135) o147_2_35 (by kernel_rfl) (by kernel_rfl) (by rfl) (fun K hK => ?_)
    go_simp; refine (unless_calls _ _ _).mono ?_; rintro e w' ⟨rfl, rfl⟩; go_wp2_with fail
    refine hK.out _ _ ?_ (fun hHeld => ?_)
    ·(exact HS.out _ (by first | assumption | exact hHeld.1 | exact below_step hHeld.1 (by first | assumption | exact below_alloc _ _)))
    clear hK K; try simp only [Act.put, sEt, sE0, sE1]
    refine run_to 37 (bQ 45 1924145348607) o147_2_37 (by kernel_rfl) (by kernel_rfl) (by rfl) (fun K hK => ?_)
    go_simp; refine (manyFits_calls r _).mono ?_; rintro e w' ⟨rfl, hb⟩; go_wp2_with fail
    refine hK.out _ _ ?_ (fun hHeld => ?_)
    ·(exact HS.out _ (by first | assumption | exact hHeld.1 | exact below_step hHeld.1 (by first | assumption | exact below_alloc _ _)))
    clear hK K; try simp only [Act.put, sEt, sE0, sE1]
    refine run_to 38 (bQ 45 2199023255551) o147_2_38 (by kernel_rfl) (by kernel_rfl) (by rfl) (fun K hK => ?_)
    go_simp; refine (unless_calls _ _ _).mono ?_; rintro e w' ⟨rfl, rfl⟩; go_wp2_with fail
    refine hK.out _ _ ?_ (fun hHeld => ?_)
    ·(exact HS.out _ (by first | assumption | exact hHeld.1 | exact below_step hHeld.1 (by first | assumption | exact below_alloc _ _)))
    clear hK K; try simp only [Act.put, sEt, sE0, sE1]
    refine run_to 41 (bQ 45 4398046511103) o147_2_41 (by kernel_rfl) (by kernel_rfl) (by rfl) (fun K hK => ?_)
    go_simp; refine (wrong_calls r.num r.den _ H6.out H7.out).mono ?_; rintro e w' ⟨rfl, hb⟩; go_wp2_with fail
    refine hK.out _ _ ?_ (fun hHeld => ?_)
    ·(exact HS.out _ (by first | assumption | exact hHeld.1 | exact below_step hHeld.1 (by first | assumption | exact below_alloc _ _)))
    clear hK K; try simp only [Act.put, sEt, sE0, sE1]
    refine run_to 42 (bQ 45 8796093022207) o147_2_42 (by kernel_rfl) (by kernel_rfl) (by rfl) (fun K hK => ?_)
    go_simp; refine hK.out _ _ ?_ (fun hHeld => ?_)
    ·(exact HS.out _ (by first | assumption | exact hHeld.1 | exact below_step hHeld.1 (by first | assumption | exact below_alloc _ _)))
    clear hK K; try simp only [Act.put, sEt, sE0, sE1]
    refine run_to 43 (bQ 45 17592186044415) o147_2_43 (by kernel_rfl) (by kernel_rfl) (by rfl) (fun K hK => ?_)
    go_simp; refine (orE_calls _ 0 6 [unlessE false 5, unlessE (keyB r.pos) 5, unlessE (ltS sp.key r.key) 7, unlessE (betwB r.kind 1 4) 4, unlessE (manyB r.kind r.many) 1, wrongF r.num r.den 10000] _ (by simp) (by exact nums6 _ _ _ _ _ _ _ _)).mono ?_
    rintro e w' ⟨rfl, rfl⟩; go_wp2_with fail
    refine hK.out _ _ ?_ (fun hHeld => ?_)
    ·(exact HS.out _ (by first | assumption | exact hHeld.1 | exact below_step hHeld.1 (by first | assumption | exact below_alloc _ _)))
    clear hK K; try simp only [Act.put, sEt, sE0, sE1]
    refine take_to 44 3 (bQ 45 35184372088831) (v := ?_) o147_2_44 rfl o147_2_ns (by kernel_rfl) (by kernel_rfl) (fun _ _ _ h => h) (by rfl) ?y44000 (by assumption) ?_
    case y44000 => intro w h; (try dsimp only at h); go_simp; try with_reducible rfl
    simp only [sE0, sE1]; refine wpAnyH_done (by kernel_rfl) ?_ _
    go_wp2_with fail
    go_ret
    exact ⟨ret_int Hr.out.symm, below_step hwW hHeld.1⟩

def chkRl (rs : List RD) : Int := eachE rs.length 100 (rlF rs)
set_option maxRecDepth 100000 in
set_option maxHeartbeats 2000000 in
theorem checkRules_calls (lo : Nat) (v : Value) (rs : List RD) (w : World) (hR : Rls w lo v rs) (hs : ∀ r ∈ rs, SmallR r) (hn : rs.length ≤ 1000000) :
  Calls Tryz.prog 136 #[v] w (IntBelow (chkRl rs) w) := by
 obtain ⟨a, c, rfl⟩ := rls_shape hR
 have hb := below_alloc w (.cells #[.slice a rs.length c] 115)
 have x0 : (w.alloc (.cells #[.slice a rs.length c] 115)).cell? ⟨w.heap.size, 0, none⟩ = some (.slice a rs.length c) := by rw [World.cell?_alloc_at _ _ _ _ rfl]; rfl
 have Hs := Lib.hid hs
 have hf : ∀ (W : World) (i : Nat), i < rs.length → Below (w.alloc (.cells #[.slice a rs.length c] 115)).heap.size (w.alloc (.cells #[.slice a rs.length c] 115)) W → Calls Tryz.prog 147 (#[.int .i64 (i : Int)] ++ #[.pointer (some ⟨w.heap.size, 0, none⟩)]) W (IntBelow (rlF rs i) W) := by
  intro W i hi hbW; obtain ⟨r, hr⟩ : ∃ r, rs[i]? = some r := ⟨rs[i], List.getElem?_eq_getElem hi⟩
  have hRW := (hR.below hb).below hbW; have y0 := below_cell hbW x0; rcases rls_at hRW with ⟨_, rfl⟩ | ⟨g, off, cap, e, _⟩
  ·simp at hi
  ·rw [e] at hRW y0
   exact checkRules1_calls w.heap.size g off cap i lo rs r W hr (Hs.out r (List.mem_of_getElem? hr)) hn y0 hRW
 have Hf := Lib.hid hf
 have Hb := Lib.hid hb
 clear hf hs hR hb
 go_enter Tryz.func136, Tryz.ntmps136
 go_wp2_with fail
 refine (each_calls 147 #[.pointer (some ⟨w.heap.size, 0, none⟩)] (enters_of Tryz.func147 (by kernel_rfl) rfl) (rlF rs) rs.length 100 _ hn Hf.out).mono ?_
 rintro e w' ⟨rfl, hb⟩
 go_wp2_with fail
 go_ret
 exact ⟨rfl, below_step Hb.out hb⟩
end Go.Proofs.YtfcaokpadodijaaGreat
/- CheckLine, and the checks of Total. -/
namespace Go.Proofs.YtfcaokpadodijaaGreat
open Go.RowKit

/-- Statistic i of some. -/
def tdAt (ts : List TD) (i : Nat) : TD := ts[i]?.getD ⟨ByteArray.empty, 0⟩
theorem tdAt_some {ts : List TD} {i : Nat} {t : TD} (h : ts[i]? = some t) : tdAt ts i = t := by simp [tdAt, h]
/-- What is wrong with statistic i. -/
def tdF (ts : List TD) (i : Nat) : Int := firstE [unlessE (keyB (tdAt ts i).name) 5, unlessE (betwB (tdAt ts i).count (-100000) 100000) 1, unlessE (decide (i = 0) || ltS (tdAt ts (i - 1)).name (tdAt ts i).name) 7]
theorem nums3' (w : World) (T : Nat) (a b c : Int) : NumsAt (w.alloc (.cells #[.int .i64 a, .int .i64 b, .int .i64 c] T)) w.heap.size 0 [a, b, c] := by
 intro i x hx
 rw [World.cell?_alloc_at _ _ _ _ rfl]
 match i, hx with
 | 0, hx => simp at hx; subst hx; rfl
 | 1, hx => simp at hx; subst hx; rfl
 | 2, hx => simp at hx; subst hx; rfl
def o138_2 : Array Go.Oper := #[
 ⟨some 10, .fieldAddr 117 (.tmp 4) 0, 0, "score.go:22", #[], none⟩,
 ⟨some 11, .load 9 (.tmp 10), 9, "score.go:22", #[⟨0, .data⟩], none⟩,
 ⟨some 12, .call { callee := .value (.func 71), args := #[.tmp 11], argTypes := #[9] }, 4, "score.go:23", #[⟨1, .data⟩], none⟩,
 ⟨some 13, .call { callee := .value (.func 47), args := #[.tmp 12, .const (.int .i64 5)], argTypes := #[4, 35] }, 35, "score.go:23", #[⟨2, .data⟩, ⟨2, .chain⟩], none⟩,
 ⟨some 14, .fieldAddr 117 (.tmp 4) 1, 0, "score.go:22", #[], none⟩,
 ⟨some 15, .load 3 (.tmp 14), 3, "score.go:22", #[⟨4, .data⟩], none⟩,
 ⟨some 16, .call { callee := .value (.func 116), args := #[.tmp 15, .const (.int .i64 (-100000)), .const (.int .i64 100000)], argTypes := #[3, 3, 3] }, 4, "score.go:24", #[⟨5, .data⟩, ⟨3, .chain⟩], none⟩,
 ⟨some 17, .call { callee := .value (.func 47), args := #[.tmp 16, .const (.int .i64 1)], argTypes := #[4, 35] }, 35, "score.go:24", #[⟨6, .data⟩, ⟨6, .chain⟩], none⟩,
 ⟨some 18, .move (.tmp 0), 3, "score.go:22", #[], none⟩,
 ⟨some 19, .binOp .eql 3 (.tmp 18) (.const (.int .i64 0)) 3, 4, "score.go:22", #[⟨8, .data⟩], none⟩,
 ⟨some 20, .move (.tmp 19), 4, "score.go:22", #[⟨9, .data⟩, ⟨7, .chain⟩], none⟩,
 ⟨some 21, .fieldAddr 120 (.tmp 1) 2, 0, "score.go:22", #[⟨10, .guard⟩], some (10, false)⟩,
 ⟨some 22, .load 118 (.tmp 21), 118, "score.go:22", #[⟨11, .data⟩, ⟨10, .guard⟩], some (10, false)⟩,
 ⟨some 23, .move (.tmp 0), 3, "score.go:22", #[⟨10, .guard⟩], some (10, false)⟩,
 ⟨some 24, .binOp .sub 3 (.tmp 23) (.const (.int .i64 1)) 3, 3, "score.go:22", #[⟨13, .data⟩, ⟨10, .guard⟩], some (10, false)⟩,
 ⟨some 25, .indexAddr 118 (.tmp 22) (.tmp 24), 0, "score.go:22", #[⟨12, .data⟩, ⟨14, .data⟩, ⟨10, .guard⟩], some (10, false)⟩,
 ⟨some 26, .fieldAddr 117 (.tmp 25) 0, 0, "score.go:22", #[⟨15, .data⟩, ⟨10, .guard⟩], some (10, false)⟩,
 ⟨some 27, .load 9 (.tmp 26), 9, "score.go:22", #[⟨16, .data⟩, ⟨10, .guard⟩], some (10, false)⟩,
 ⟨some 28, .fieldAddr 117 (.tmp 4) 0, 0, "score.go:22", #[⟨10, .guard⟩], some (10, false)⟩,
 ⟨some 29, .load 9 (.tmp 28), 9, "score.go:22", #[⟨18, .data⟩, ⟨10, .guard⟩], some (10, false)⟩,
 ⟨some 30, .binOp .lss 9 (.tmp 27) (.tmp 29) 9, 4, "score.go:22", #[⟨17, .data⟩, ⟨19, .data⟩, ⟨10, .guard⟩], some (10, false)⟩,
 ⟨some 31, .pick (.tmp 20) (.const (.bool true)) (.tmp 30), 4, "score.go:22", #[⟨10, .data⟩, ⟨20, .data⟩], none⟩,
 ⟨some 32, .call { callee := .value (.func 47), args := #[.tmp 31, .const (.int .i64 7)], argTypes := #[4, 35] }, 35, "score.go:25", #[⟨21, .data⟩, ⟨10, .chain⟩], none⟩,
 ⟨some 33, .buildSlice 90 3 #[(0, .tmp 13), (1, .tmp 17), (2, .tmp 32)], 90, "score.go:22", #[⟨3, .data⟩, ⟨7, .data⟩, ⟨22, .data⟩], none⟩,
 ⟨some 34, .call { callee := .value (.func 46), args := #[.tmp 33], argTypes := #[90] }, 35, "score.go:22", #[⟨23, .data⟩, ⟨22, .chain⟩], none⟩,
 ⟨some 3, .assign (.tmp 34), 35, "score.go:22", #[⟨24, .data⟩, ⟨24, .chain⟩, ⟨0, .phase⟩, ⟨1, .phase⟩, ⟨2, .phase⟩, ⟨3, .phase⟩, ⟨4, .phase⟩, ⟨5, .phase⟩, ⟨6, .phase⟩, ⟨7, .phase⟩, ⟨8, .phase⟩, ⟨9, .phase⟩, ⟨10, .phase⟩, ⟨11, .phase⟩, ⟨12, .phase⟩, ⟨13, .phase⟩, ⟨14, .phase⟩, ⟨15, .phase⟩, ⟨16, .phase⟩, ⟨17, .phase⟩, ⟨18, .phase⟩, ⟨19, .phase⟩, ⟨20, .phase⟩, ⟨21, .phase⟩, ⟨22, .phase⟩, ⟨23, .phase⟩, ⟨24, .phase⟩], none⟩]
theorem o138_2_0 : o138_2[0]? = some (⟨some 10, .fieldAddr 117 (.tmp 4) 0, 0, "score.go:22", #[], none⟩ : Go.Oper) := rfl
theorem o138_2_1 : o138_2[1]? = some (⟨some 11, .load 9 (.tmp 10), 9, "score.go:22", #[⟨0, .data⟩], none⟩ : Go.Oper) := rfl
theorem o138_2_2 : o138_2[2]? = some (⟨some 12, .call { callee := .value (.func 71), args := #[.tmp 11], argTypes := #[9] }, 4, "score.go:23", #[⟨1, .data⟩], none⟩ : Go.Oper) := rfl
theorem o138_2_3 : o138_2[3]? = some (⟨some 13, .call { callee := .value (.func 47), args := #[.tmp 12, .const (.int .i64 5)], argTypes := #[4, 35] }, 35, "score.go:23", #[⟨2, .data⟩, ⟨2, .chain⟩], none⟩ : Go.Oper) := rfl
theorem o138_2_4 : o138_2[4]? = some (⟨some 14, .fieldAddr 117 (.tmp 4) 1, 0, "score.go:22", #[], none⟩ : Go.Oper) := rfl
theorem o138_2_5 : o138_2[5]? = some (⟨some 15, .load 3 (.tmp 14), 3, "score.go:22", #[⟨4, .data⟩], none⟩ : Go.Oper) := rfl
theorem o138_2_6 : o138_2[6]? = some (⟨some 16, .call { callee := .value (.func 116), args := #[.tmp 15, .const (.int .i64 (-100000)), .const (.int .i64 100000)], argTypes := #[3, 3, 3] }, 4, "score.go:24", #[⟨5, .data⟩, ⟨3, .chain⟩], none⟩ : Go.Oper) := rfl
theorem o138_2_7 : o138_2[7]? = some (⟨some 17, .call { callee := .value (.func 47), args := #[.tmp 16, .const (.int .i64 1)], argTypes := #[4, 35] }, 35, "score.go:24", #[⟨6, .data⟩, ⟨6, .chain⟩], none⟩ : Go.Oper) := rfl
theorem o138_2_8 : o138_2[8]? = some (⟨some 18, .move (.tmp 0), 3, "score.go:22", #[], none⟩ : Go.Oper) := rfl
theorem o138_2_9 : o138_2[9]? = some (⟨some 19, .binOp .eql 3 (.tmp 18) (.const (.int .i64 0)) 3, 4, "score.go:22", #[⟨8, .data⟩], none⟩ : Go.Oper) := rfl
theorem o138_2_10 : o138_2[10]? = some (⟨some 20, .move (.tmp 19), 4, "score.go:22", #[⟨9, .data⟩, ⟨7, .chain⟩], none⟩ : Go.Oper) := rfl
theorem o138_2_11 : o138_2[11]? = some (⟨some 21, .fieldAddr 120 (.tmp 1) 2, 0, "score.go:22", #[⟨10, .guard⟩], some (10, false)⟩ : Go.Oper) := rfl
theorem o138_2_12 : o138_2[12]? = some (⟨some 22, .load 118 (.tmp 21), 118, "score.go:22", #[⟨11, .data⟩, ⟨10, .guard⟩], some (10, false)⟩ : Go.Oper) := rfl
theorem o138_2_13 : o138_2[13]? = some (⟨some 23, .move (.tmp 0), 3, "score.go:22", #[⟨10, .guard⟩], some (10, false)⟩ : Go.Oper) := rfl
theorem o138_2_14 : o138_2[14]? = some (⟨some 24, .binOp .sub 3 (.tmp 23) (.const (.int .i64 1)) 3, 3, "score.go:22", #[⟨13, .data⟩, ⟨10, .guard⟩], some (10, false)⟩ : Go.Oper) := rfl
theorem o138_2_15 : o138_2[15]? = some (⟨some 25, .indexAddr 118 (.tmp 22) (.tmp 24), 0, "score.go:22", #[⟨12, .data⟩, ⟨14, .data⟩, ⟨10, .guard⟩], some (10, false)⟩ : Go.Oper) := rfl
theorem o138_2_16 : o138_2[16]? = some (⟨some 26, .fieldAddr 117 (.tmp 25) 0, 0, "score.go:22", #[⟨15, .data⟩, ⟨10, .guard⟩], some (10, false)⟩ : Go.Oper) := rfl
theorem o138_2_17 : o138_2[17]? = some (⟨some 27, .load 9 (.tmp 26), 9, "score.go:22", #[⟨16, .data⟩, ⟨10, .guard⟩], some (10, false)⟩ : Go.Oper) := rfl
theorem o138_2_18 : o138_2[18]? = some (⟨some 28, .fieldAddr 117 (.tmp 4) 0, 0, "score.go:22", #[⟨10, .guard⟩], some (10, false)⟩ : Go.Oper) := rfl
theorem o138_2_19 : o138_2[19]? = some (⟨some 29, .load 9 (.tmp 28), 9, "score.go:22", #[⟨18, .data⟩, ⟨10, .guard⟩], some (10, false)⟩ : Go.Oper) := rfl
theorem o138_2_20 : o138_2[20]? = some (⟨some 30, .binOp .lss 9 (.tmp 27) (.tmp 29) 9, 4, "score.go:22", #[⟨17, .data⟩, ⟨19, .data⟩, ⟨10, .guard⟩], some (10, false)⟩ : Go.Oper) := rfl
theorem o138_2_21 : o138_2[21]? = some (⟨some 31, .pick (.tmp 20) (.const (.bool true)) (.tmp 30), 4, "score.go:22", #[⟨10, .data⟩, ⟨20, .data⟩], none⟩ : Go.Oper) := rfl
theorem o138_2_22 : o138_2[22]? = some (⟨some 32, .call { callee := .value (.func 47), args := #[.tmp 31, .const (.int .i64 7)], argTypes := #[4, 35] }, 35, "score.go:25", #[⟨21, .data⟩, ⟨10, .chain⟩], none⟩ : Go.Oper) := rfl
theorem o138_2_23 : o138_2[23]? = some (⟨some 33, .buildSlice 90 3 #[(0, .tmp 13), (1, .tmp 17), (2, .tmp 32)], 90, "score.go:22", #[⟨3, .data⟩, ⟨7, .data⟩, ⟨22, .data⟩], none⟩ : Go.Oper) := rfl
theorem o138_2_24 : o138_2[24]? = some (⟨some 34, .call { callee := .value (.func 46), args := #[.tmp 33], argTypes := #[90] }, 35, "score.go:22", #[⟨23, .data⟩, ⟨22, .chain⟩], none⟩ : Go.Oper) := rfl
theorem o138_2_25 : o138_2[25]? = some (⟨some 3, .assign (.tmp 34), 35, "score.go:22", #[⟨24, .data⟩, ⟨24, .chain⟩, ⟨0, .phase⟩, ⟨1, .phase⟩, ⟨2, .phase⟩, ⟨3, .phase⟩, ⟨4, .phase⟩, ⟨5, .phase⟩, ⟨6, .phase⟩, ⟨7, .phase⟩, ⟨8, .phase⟩, ⟨9, .phase⟩, ⟨10, .phase⟩, ⟨11, .phase⟩, ⟨12, .phase⟩, ⟨13, .phase⟩, ⟨14, .phase⟩, ⟨15, .phase⟩, ⟨16, .phase⟩, ⟨17, .phase⟩, ⟨18, .phase⟩, ⟨19, .phase⟩, ⟨20, .phase⟩, ⟨21, .phase⟩, ⟨22, .phase⟩, ⟨23, .phase⟩, ⟨24, .phase⟩], none⟩ : Go.Oper) := rfl
theorem o138_2_ns : Go.Region.noSelect o138_2 = true := by kernel_rfl
set_option maxRecDepth 100000 in
set_option maxHeartbeats 8000000 in
theorem checkLine1_calls (c g off cap i lo : Nat) (ts : List TD) (t : TD) (w : World) (hi : ts[i]? = some t) (hs : SmallT t) (hn : ts.length ≤ 1000000)
  (h1 : w.cell? ⟨c, 2, none⟩ = some (.slice (some ⟨g, off, none⟩) ts.length cap)) (hT : Tds w lo (.slice (some ⟨g, off, none⟩) ts.length cap) ts) :
  Calls Tryz.prog 138 #[.int .i64 (i : Int), .pointer (some ⟨c, 0, none⟩)] w (IntBelow (tdF ts i) w) := by
 have hlt : i < ts.length := (List.getElem?_eq_some_iff.1 hi).1
 rcases tds_at hT with ⟨h, _⟩ | ⟨g', off', cap', e, _, _, _, hcell⟩
 ·cases h
 simp only [Value.slice.injEq, Option.some.injEq, Addr.mk.injEq, and_true, true_and] at e
 obtain ⟨⟨rfl, rfl⟩, rfl⟩ := e
 obtain ⟨q0, q1⟩ := hcell i t hi
 obtain ⟨W, hW⟩ : ∃ W, W = w.alloc (.cells #[.string t.name, .int .i64 t.count] 117) := ⟨_, rfl⟩
 have hwW : Below w.heap.size w W := by rw [hW]; exact below_alloc w _
 have hx : W.heap[w.heap.size]? = some (.cells #[.string t.name, .int .i64 t.count] 117 (0, 0)) := by rw [hW]; exact heap_alloc_new w _
 have x0 := cell_at hx 0 rfl
 have x1 := cell_at hx 1 rfl
 have c1 := below_cell hwW h1
 have hb0 := (Below.refl W.heap.size W).drew
 obtain ⟨hs1, hs2⟩ := hs
 have HS0 := Lib.hid (show ∀ w', Below W.heap.size W w' → (Below W.heap.size W w' ∧ w'.cell? ⟨c, 2, none⟩ = some (.slice (some ⟨g, off, none⟩) ts.length cap) ∧ w'.cell? ⟨w.heap.size, 0, none⟩ = some (.string t.name) ∧ w'.cell? ⟨w.heap.size, 1, none⟩ = some (.int .i64 t.count)) from fun w' hb => ⟨hb, below_cell hb c1, below_cell hb x0, below_cell hb x1⟩)
 clear hs2 hx
 by_cases hz : i = 0
 ·have e0 : ((i : Int) == 0) = true := by rw [beq_iff_eq]; omega
  have HS := HS0; have Hr := Lib.hid (show tdF ts i = firstE [unlessE (keyB t.name) 5, unlessE (betwB t.count (-100000) 100000) 1, unlessE true 7] by rw [tdF, tdAt_some hi]; simp [hz])
  clear hi hz c1 x0 x1 hT hcell HS0; go_enter Tryz.func138, Tryz.ntmps138; go_upto_region 2 with fail
  rw [← hW]; clear hW; show Code.wp _ (Code.region 2 o138_2 true) _ _ _
  refine region_start 26 (fun w' => Below W.heap.size W w' ∧ w'.cell? ⟨c, 2, none⟩ = some (.slice (some ⟨g, off, none⟩) ts.length cap) ∧ w'.cell? ⟨w.heap.size, 0, none⟩ = some (.string t.name) ∧ w'.cell? ⟨w.heap.size, 1, none⟩ = some (.int .i64 t.count)) (by kernel_rfl) rfl ?_ (fun hHeld => ?_)
  ·(exact HS.out _ (by first | assumption | exact hHeld.1 | exact below_step hHeld.1 (by first | assumption | exact below_alloc _ _)))
  refine take_to 0 10 (bQ 26 1) (v := ?_) o138_2_0 rfl o138_2_ns (by kernel_rfl) (by kernel_rfl) (fun _ _ _ h => h) (by rfl) ?y0z1 (by assumption) ?_
  case y0z1 => intro w h; (try dsimp only at h); go_simp; try with_reducible rfl
  simp only [sE0, sE1]; refine take_to 1 11 (bQ 26 3) (v := ?_) o138_2_1 rfl o138_2_ns (by kernel_rfl) (by kernel_rfl) (fun _ _ _ h => h) (by rfl) ?y1z1 (by assumption) ?_
  case y1z1 => intro w h; (try dsimp only at h); go_simp; try with_reducible rfl
  simp only [sE0, sE1]; refine take_to 4 14 (bQ 26 19) (v := ?_) o138_2_4 rfl o138_2_ns (by kernel_rfl) (by kernel_rfl) (fun _ _ _ h => h) (by rfl) ?y4z1 (by assumption) ?_
  case y4z1 => intro w h; (try dsimp only at h); go_simp; try with_reducible rfl
  simp only [sE0, sE1]; refine take_to 5 15 (bQ 26 51) (v := ?_) o138_2_5 rfl o138_2_ns (by kernel_rfl) (by kernel_rfl) (fun _ _ _ h => h) (by rfl) ?y5z1 (by assumption) ?_
  case y5z1 => intro w h; (try dsimp only at h); go_simp; try with_reducible rfl
  simp only [sE0, sE1]; refine take_to 8 18 (bQ 26 307) (v := ?_) o138_2_8 rfl o138_2_ns (by kernel_rfl) (by kernel_rfl) (fun _ _ _ h => h) (by rfl) ?y8z1 (by assumption) ?_
  case y8z1 => intro w h; (try dsimp only at h); go_simp; try with_reducible rfl
  simp only [sE0, sE1]; refine take_to 9 19 (bQ 26 819) (v := ?_) o138_2_9 rfl o138_2_ns (by kernel_rfl) (by kernel_rfl) (fun _ _ _ h => h) (by rfl) ?y9z1 (by assumption) ?_
  case y9z1 => intro w h; (try dsimp only at h); go_simp; try with_reducible rfl
  simp only [sE0, sE1]; refine run_to 2 (bQ 26 823) o138_2_2 (by kernel_rfl) (by kernel_rfl) (by rfl) (fun K hK => ?_)
  go_simp; refine (key_calls _ _ (by omega)).mono ?_
  rintro e w' ⟨rfl, rfl⟩; go_wp2_with fail
  refine hK.out _ _ ?_ (fun hHeld => ?_)
  ·(exact HS.out _ (by first | assumption | exact hHeld.1 | exact below_step hHeld.1 (by first | assumption | exact below_alloc _ _)))
  clear hK K; try simp only [Act.put, sEt, sE0, sE1]
  refine run_to 3 (bQ 26 831) o138_2_3 (by kernel_rfl) (by kernel_rfl) (by rfl) (fun K hK => ?_)
  go_simp; refine (unless_calls _ _ _).mono ?_; rintro e w' ⟨rfl, rfl⟩; go_wp2_with fail
  refine hK.out _ _ ?_ (fun hHeld => ?_)
  ·(exact HS.out _ (by first | assumption | exact hHeld.1 | exact below_step hHeld.1 (by first | assumption | exact below_alloc _ _)))
  clear hK K; try simp only [Act.put, sEt, sE0, sE1]
  refine run_to 6 (bQ 26 895) o138_2_6 (by kernel_rfl) (by kernel_rfl) (by rfl) (fun K hK => ?_)
  go_simp; refine (between_calls _ (-100000) 100000 _).mono ?_; rintro e w' ⟨rfl, rfl⟩; go_wp2_with fail
  refine hK.out _ _ ?_ (fun hHeld => ?_)
  ·(exact HS.out _ (by first | assumption | exact hHeld.1 | exact below_step hHeld.1 (by first | assumption | exact below_alloc _ _)))
  clear hK K; try simp only [Act.put, sEt, sE0, sE1]
  refine run_to 7 (bQ 26 1023) o138_2_7 (by kernel_rfl) (by kernel_rfl) (by rfl) (fun K hK => ?_)
  go_simp; refine (unless_calls _ _ _).mono ?_; rintro e w' ⟨rfl, rfl⟩; go_wp2_with fail
  refine hK.out _ _ ?_ (fun hHeld => ?_)
  ·(exact HS.out _ (by first | assumption | exact hHeld.1 | exact below_step hHeld.1 (by first | assumption | exact below_alloc _ _)))
  clear hK K; try simp only [Act.put, sEt, sE0, sE1]
  refine take_to 10 20 (bQ 26 2047) (v := ?_) o138_2_10 rfl o138_2_ns (by kernel_rfl) (by kernel_rfl) (fun _ _ _ h => h) (by rfl) ?y10z1 (by assumption) ?_
  case y10z1 => intro w h; (try dsimp only at h); go_simp; try with_reducible rfl
  simp only [sE0, sE1]; refine skip_to 11 21 (bQ 26 4095) o138_2_11 rfl o138_2_ns (by kernel_rfl) (by kernel_rfl) (fun _ _ _ h => h) (by rfl) (by assumption) ?_
  simp only [sE0, sE1]; refine skip_to 12 22 (bQ 26 8191) o138_2_12 rfl o138_2_ns (by kernel_rfl) (by kernel_rfl) (fun _ _ _ h => h) (by rfl) (by assumption) ?_
  simp only [sE0, sE1]; refine skip_to 13 23 (bQ 26 16383) o138_2_13 rfl o138_2_ns (by kernel_rfl) (by kernel_rfl) (fun _ _ _ h => h) (by rfl) (by assumption) ?_
  simp only [sE0, sE1]; refine skip_to 14 24 (bQ 26 32767) o138_2_14 rfl o138_2_ns (by kernel_rfl) (by kernel_rfl) (fun _ _ _ h => h) (by rfl) (by assumption) ?_
  simp only [sE0, sE1]; refine skip_to 15 25 (bQ 26 65535) o138_2_15 rfl o138_2_ns (by kernel_rfl) (by kernel_rfl) (fun _ _ _ h => h) (by rfl) (by assumption) ?_
  simp only [sE0, sE1]; refine skip_to 16 26 (bQ 26 131071) o138_2_16 rfl o138_2_ns (by kernel_rfl) (by kernel_rfl) (fun _ _ _ h => h) (by rfl) (by assumption) ?_
  simp only [sE0, sE1]; refine skip_to 17 27 (bQ 26 262143) o138_2_17 rfl o138_2_ns (by kernel_rfl) (by kernel_rfl) (fun _ _ _ h => h) (by rfl) (by assumption) ?_
  simp only [sE0, sE1]; refine skip_to 18 28 (bQ 26 524287) o138_2_18 rfl o138_2_ns (by kernel_rfl) (by kernel_rfl) (fun _ _ _ h => h) (by rfl) (by assumption) ?_
  simp only [sE0, sE1]; refine skip_to 19 29 (bQ 26 1048575) o138_2_19 rfl o138_2_ns (by kernel_rfl) (by kernel_rfl) (fun _ _ _ h => h) (by rfl) (by assumption) ?_
  simp only [sE0, sE1]; refine skip_to 20 30 (bQ 26 2097151) o138_2_20 rfl o138_2_ns (by kernel_rfl) (by kernel_rfl) (fun _ _ _ h => h) (by rfl) (by assumption) ?_
  simp only [sE0, sE1]; refine take_to 21 31 (bQ 26 4194303) (v := ?_) o138_2_21 rfl o138_2_ns (by kernel_rfl) (by kernel_rfl) (fun _ _ _ h => h) (by rfl) ?y21z1 (by assumption) ?_
  case y21z1 => intro w h; (try dsimp only at h); go_simp; try with_reducible rfl
  simp only [sE0, sE1]; refine run_to 22 (bQ 26 8388607) o138_2_22 (by kernel_rfl) (by kernel_rfl) (by rfl) (fun K hK => ?_)
  go_simp; refine (unless_calls _ _ _).mono ?_; rintro e w' ⟨rfl, rfl⟩; go_wp2_with fail
  refine hK.out _ _ ?_ (fun hHeld => ?_)
  ·(exact HS.out _ (by first | assumption | exact hHeld.1 | exact below_step hHeld.1 (by first | assumption | exact below_alloc _ _)))
  clear hK K; try simp only [Act.put, sEt, sE0, sE1]
  refine run_to 23 (bQ 26 16777215) o138_2_23 (by kernel_rfl) (by kernel_rfl) (by rfl) (fun K hK => ?_)
  go_simp; refine hK.out _ _ ?_ (fun hHeld => ?_)
  ·(exact HS.out _ (by first | assumption | exact hHeld.1 | exact below_step hHeld.1 (by first | assumption | exact below_alloc _ _)))
  clear hK K; try simp only [Act.put, sEt, sE0, sE1]
  refine run_to 24 (bQ 26 33554431) o138_2_24 (by kernel_rfl) (by kernel_rfl) (by rfl) (fun K hK => ?_)
  go_simp; refine (orE_calls _ 0 3 [unlessE (keyB t.name) 5, unlessE (betwB t.count (-100000) 100000) 1, unlessE true 7] _ (by simp) (by exact nums3' _ _ _ _ _)).mono ?_
  rintro e w' ⟨rfl, rfl⟩; go_wp2_with fail
  refine hK.out _ _ ?_ (fun hHeld => ?_)
  ·(exact HS.out _ (by first | assumption | exact hHeld.1 | exact below_step hHeld.1 (by first | assumption | exact below_alloc _ _)))
  clear hK K; try simp only [Act.put, sEt, sE0, sE1]
  refine take_to 25 3 (bQ 26 67108863) (v := ?_) o138_2_25 rfl o138_2_ns (by kernel_rfl) (by kernel_rfl) (fun _ _ _ h => h) (by rfl) ?y25z1 (by assumption) ?_
  case y25z1 => intro w h; (try dsimp only at h); go_simp; try with_reducible rfl
  simp only [sE0, sE1]; refine wpAnyH_done (by kernel_rfl) ?_ _
  go_wp2_with fail
  go_ret
  exact ⟨ret_int Hr.out.symm, below_step hwW hHeld.1⟩
 ·obtain ⟨sp, hsp⟩ : ∃ sp, ts[i - 1]? = some sp := ⟨_, List.getElem?_eq_getElem (show i - 1 < ts.length by omega)⟩
  obtain ⟨r0, -⟩ := hcell (i - 1) sp hsp; have r0W := below_cell hwW r0; have e0 : ((i : Int) == 0) = false := by rw [beq_eq_false_iff_ne]; omega
  have w1 : IntKind.i64.wrap ((i : Int) - 1) = ((i - 1 : Nat) : Int) := by rw [IntWalk.i64_in _ (by omega)]; omega
  have w2 : ((i - 1 : Nat) : Int) < (ts.length : Int) := by omega
  have HS := Lib.hid (show ∀ w', Below W.heap.size W w' → (Below W.heap.size W w' ∧ w'.cell? ⟨c, 2, none⟩ = some (.slice (some ⟨g, off, none⟩) ts.length cap) ∧ w'.cell? ⟨w.heap.size, 0, none⟩ = some (.string t.name) ∧ w'.cell? ⟨w.heap.size, 1, none⟩ = some (.int .i64 t.count) ∧ w'.cell? ⟨g, off + (i - 1) * 2, none⟩ = some (.string sp.name)) from fun w' hb => ⟨hb, below_cell hb c1, below_cell hb x0, below_cell hb x1, below_cell hb r0W⟩)
  have Hr := Lib.hid (show tdF ts i = firstE [unlessE (keyB t.name) 5, unlessE (betwB t.count (-100000) 100000) 1, unlessE (ltS sp.name t.name) 7] by rw [tdF, tdAt_some hi, tdAt_some hsp]; simp [hz])
  clear hi hz c1 x0 x1 hT hcell HS0 r0 r0W hsp; go_enter Tryz.func138, Tryz.ntmps138; go_upto_region 2 with fail
  rw [← hW]; clear hW; show Code.wp _ (Code.region 2 o138_2 true) _ _ _
  refine region_start 26 (fun w' => Below W.heap.size W w' ∧ w'.cell? ⟨c, 2, none⟩ = some (.slice (some ⟨g, off, none⟩) ts.length cap) ∧ w'.cell? ⟨w.heap.size, 0, none⟩ = some (.string t.name) ∧ w'.cell? ⟨w.heap.size, 1, none⟩ = some (.int .i64 t.count) ∧ w'.cell? ⟨g, off + (i - 1) * 2, none⟩ = some (.string sp.name)) (by kernel_rfl) rfl ?_ (fun hHeld => ?_)
  ·(exact HS.out _ (by first | assumption | exact hHeld.1 | exact below_step hHeld.1 (by first | assumption | exact below_alloc _ _)))
  refine take_to 0 10 (bQ 26 1) (v := ?_) o138_2_0 rfl o138_2_ns (by kernel_rfl) (by kernel_rfl) (fun _ _ _ h => h) (by rfl) ?y0z0 (by assumption) ?_
  case y0z0 => intro w h; (try dsimp only at h); go_simp; try with_reducible rfl
  simp only [sE0, sE1]; refine take_to 1 11 (bQ 26 3) (v := ?_) o138_2_1 rfl o138_2_ns (by kernel_rfl) (by kernel_rfl) (fun _ _ _ h => h) (by rfl) ?y1z0 (by assumption) ?_
  case y1z0 => intro w h; (try dsimp only at h); go_simp; try with_reducible rfl
  simp only [sE0, sE1]; refine take_to 4 14 (bQ 26 19) (v := ?_) o138_2_4 rfl o138_2_ns (by kernel_rfl) (by kernel_rfl) (fun _ _ _ h => h) (by rfl) ?y4z0 (by assumption) ?_
  case y4z0 => intro w h; (try dsimp only at h); go_simp; try with_reducible rfl
  simp only [sE0, sE1]; refine take_to 5 15 (bQ 26 51) (v := ?_) o138_2_5 rfl o138_2_ns (by kernel_rfl) (by kernel_rfl) (fun _ _ _ h => h) (by rfl) ?y5z0 (by assumption) ?_
  case y5z0 => intro w h; (try dsimp only at h); go_simp; try with_reducible rfl
  simp only [sE0, sE1]; refine take_to 8 18 (bQ 26 307) (v := ?_) o138_2_8 rfl o138_2_ns (by kernel_rfl) (by kernel_rfl) (fun _ _ _ h => h) (by rfl) ?y8z0 (by assumption) ?_
  case y8z0 => intro w h; (try dsimp only at h); go_simp; try with_reducible rfl
  simp only [sE0, sE1]; refine take_to 9 19 (bQ 26 819) (v := ?_) o138_2_9 rfl o138_2_ns (by kernel_rfl) (by kernel_rfl) (fun _ _ _ h => h) (by rfl) ?y9z0 (by assumption) ?_
  case y9z0 => intro w h; (try dsimp only at h); go_simp; try with_reducible rfl
  simp only [sE0, sE1]; refine run_to 2 (bQ 26 823) o138_2_2 (by kernel_rfl) (by kernel_rfl) (by rfl) (fun K hK => ?_)
  go_simp; refine (key_calls _ _ (by omega)).mono ?_
  rintro e w' ⟨rfl, rfl⟩; go_wp2_with fail
  refine hK.out _ _ ?_ (fun hHeld => ?_)
  ·(exact HS.out _ (by first | assumption | exact hHeld.1 | exact below_step hHeld.1 (by first | assumption | exact below_alloc _ _)))
  clear hK K; try simp only [Act.put, sEt, sE0, sE1]
  refine run_to 3 (bQ 26 831) o138_2_3 (by kernel_rfl) (by kernel_rfl) (by rfl) (fun K hK => ?_)
  go_simp; refine (unless_calls _ _ _).mono ?_; rintro e w' ⟨rfl, rfl⟩; go_wp2_with fail
  refine hK.out _ _ ?_ (fun hHeld => ?_)
  ·(exact HS.out _ (by first | assumption | exact hHeld.1 | exact below_step hHeld.1 (by first | assumption | exact below_alloc _ _)))
  clear hK K; try simp only [Act.put, sEt, sE0, sE1]
  refine run_to 6 (bQ 26 895) o138_2_6 (by kernel_rfl) (by kernel_rfl) (by rfl) (fun K hK => ?_)
  go_simp; refine (between_calls _ (-100000) 100000 _).mono ?_; rintro e w' ⟨rfl, rfl⟩; go_wp2_with fail
  refine hK.out _ _ ?_ (fun hHeld => ?_)
  ·(exact HS.out _ (by first | assumption | exact hHeld.1 | exact below_step hHeld.1 (by first | assumption | exact below_alloc _ _)))
  clear hK K; try simp only [Act.put, sEt, sE0, sE1]
  refine run_to 7 (bQ 26 1023) o138_2_7 (by kernel_rfl) (by kernel_rfl) (by rfl) (fun K hK => ?_)
  go_simp; refine (unless_calls _ _ _).mono ?_; rintro e w' ⟨rfl, rfl⟩; go_wp2_with fail
  refine hK.out _ _ ?_ (fun hHeld => ?_)
  ·(exact HS.out _ (by first | assumption | exact hHeld.1 | exact below_step hHeld.1 (by first | assumption | exact below_alloc _ _)))
  clear hK K; try simp only [Act.put, sEt, sE0, sE1]
  refine take_to 10 20 (bQ 26 2047) (v := ?_) o138_2_10 rfl o138_2_ns (by kernel_rfl) (by kernel_rfl) (fun _ _ _ h => h) (by rfl) ?y10z0 (by assumption) ?_
  case y10z0 => intro w h; (try dsimp only at h); go_simp; try with_reducible rfl
  simp only [sE0, sE1]; refine take_to 11 21 (bQ 26 4095) (v := ?_) o138_2_11 rfl o138_2_ns (by kernel_rfl) (by kernel_rfl) (fun _ _ _ h => h) (by rfl) ?y11z0 (by assumption) ?_
  case y11z0 => intro w h; (try dsimp only at h); go_simp; try with_reducible rfl
  simp only [sE0, sE1]; refine take_to 12 22 (bQ 26 8191) (v := ?_) o138_2_12 rfl o138_2_ns (by kernel_rfl) (by kernel_rfl) (fun _ _ _ h => h) (by rfl) ?y12z0 (by assumption) ?_
  case y12z0 => intro w h; (try dsimp only at h); go_simp; try with_reducible rfl
  simp only [sE0, sE1]; refine take_to 13 23 (bQ 26 16383) (v := ?_) o138_2_13 rfl o138_2_ns (by kernel_rfl) (by kernel_rfl) (fun _ _ _ h => h) (by rfl) ?y13z0 (by assumption) ?_
  case y13z0 => intro w h; (try dsimp only at h); go_simp; try with_reducible rfl
  simp only [sE0, sE1]; refine take_to 14 24 (bQ 26 32767) (v := ?_) o138_2_14 rfl o138_2_ns (by kernel_rfl) (by kernel_rfl) (fun _ _ _ h => h) (by rfl) ?y14z0 (by assumption) ?_
  case y14z0 => intro w h; (try dsimp only at h); go_simp; try with_reducible rfl
  simp only [sE0, sE1]; refine take_to 15 25 (bQ 26 65535) (v := ?_) o138_2_15 rfl o138_2_ns (by kernel_rfl) (by kernel_rfl) (fun _ _ _ h => h) (by rfl) ?y15z0 (by assumption) ?_
  case y15z0 => intro w h; (try dsimp only at h); go_simp; try with_reducible rfl
  simp only [sE0, sE1]; refine take_to 16 26 (bQ 26 131071) (v := ?_) o138_2_16 rfl o138_2_ns (by kernel_rfl) (by kernel_rfl) (fun _ _ _ h => h) (by rfl) ?y16z0 (by assumption) ?_
  case y16z0 => intro w h; (try dsimp only at h); go_simp; try with_reducible rfl
  simp only [sE0, sE1]; refine take_to 17 27 (bQ 26 262143) (v := ?_) o138_2_17 rfl o138_2_ns (by kernel_rfl) (by kernel_rfl) (fun _ _ _ h => h) (by rfl) ?y17z0 (by assumption) ?_
  case y17z0 => intro w h; (try dsimp only at h); go_simp; try with_reducible rfl
  simp only [sE0, sE1]; refine take_to 18 28 (bQ 26 524287) (v := ?_) o138_2_18 rfl o138_2_ns (by kernel_rfl) (by kernel_rfl) (fun _ _ _ h => h) (by rfl) ?y18z0 (by assumption) ?_
  case y18z0 => intro w h; (try dsimp only at h); go_simp; try with_reducible rfl
  simp only [sE0, sE1]; refine take_to 19 29 (bQ 26 1048575) (v := ?_) o138_2_19 rfl o138_2_ns (by kernel_rfl) (by kernel_rfl) (fun _ _ _ h => h) (by rfl) ?y19z0 (by assumption) ?_
  case y19z0 => intro w h; (try dsimp only at h); go_simp; try with_reducible rfl
  simp only [sE0, sE1]; refine take_to 20 30 (bQ 26 2097151) (v := ?_) o138_2_20 rfl o138_2_ns (by kernel_rfl) (by kernel_rfl) (fun _ _ _ h => h) (by rfl) ?y20z0 (by assumption) ?_
  case y20z0 => intro w h; (try dsimp only at h); go_simp; try with_reducible rfl
  simp only [sE0, sE1]; refine take_to 21 31 (bQ 26 4194303) (v := ?_) o138_2_21 rfl o138_2_ns (by kernel_rfl) (by kernel_rfl) (fun _ _ _ h => h) (by rfl) ?y21z0 (by assumption) ?_
  case y21z0 => intro w h; (try dsimp only at h); go_simp; try with_reducible rfl
  simp only [sE0, sE1]; refine run_to 22 (bQ 26 8388607) o138_2_22 (by kernel_rfl) (by kernel_rfl) (by rfl) (fun K hK => ?_)
  go_simp; refine (unless_calls _ _ _).mono ?_; rintro e w' ⟨rfl, rfl⟩; go_wp2_with fail
  refine hK.out _ _ ?_ (fun hHeld => ?_)
  ·(exact HS.out _ (by first | assumption | exact hHeld.1 | exact below_step hHeld.1 (by first | assumption | exact below_alloc _ _)))
  clear hK K; try simp only [Act.put, sEt, sE0, sE1]
  refine run_to 23 (bQ 26 16777215) o138_2_23 (by kernel_rfl) (by kernel_rfl) (by rfl) (fun K hK => ?_)
  go_simp; refine hK.out _ _ ?_ (fun hHeld => ?_)
  ·(exact HS.out _ (by first | assumption | exact hHeld.1 | exact below_step hHeld.1 (by first | assumption | exact below_alloc _ _)))
  clear hK K; try simp only [Act.put, sEt, sE0, sE1]
  refine run_to 24 (bQ 26 33554431) o138_2_24 (by kernel_rfl) (by kernel_rfl) (by rfl) (fun K hK => ?_)
  go_simp; refine (orE_calls _ 0 3 [unlessE (keyB t.name) 5, unlessE (betwB t.count (-100000) 100000) 1, unlessE (ltS sp.name t.name) 7] _ (by simp) (by exact nums3' _ _ _ _ _)).mono ?_
  rintro e w' ⟨rfl, rfl⟩; go_wp2_with fail
  refine hK.out _ _ ?_ (fun hHeld => ?_)
  ·(exact HS.out _ (by first | assumption | exact hHeld.1 | exact below_step hHeld.1 (by first | assumption | exact below_alloc _ _)))
  clear hK K; try simp only [Act.put, sEt, sE0, sE1]
  refine take_to 25 3 (bQ 26 67108863) (v := ?_) o138_2_25 rfl o138_2_ns (by kernel_rfl) (by kernel_rfl) (fun _ _ _ h => h) (by rfl) ?y25z0 (by assumption) ?_
  case y25z0 => intro w h; (try dsimp only at h); go_simp; try with_reducible rfl
  simp only [sE0, sE1]; refine wpAnyH_done (by kernel_rfl) ?_ _
  go_wp2_with fail
  go_ret
  exact ⟨ret_int Hr.out.symm, below_step hwW hHeld.1⟩

/-- What is wrong with a line. -/
def lnE (l : LD) : Int := firstE [unlessE (keyB l.player) 5, unlessE (betwB l.week 1 60) 1, eachE l.stats.length 40 (tdF l.stats)]
def o119_1 : Array Go.Oper := #[
 ⟨some 3, .fieldAddr 120 (.tmp 1) 0, 0, "score.go:17", #[], none⟩,
 ⟨some 4, .load 9 (.tmp 3), 9, "score.go:17", #[⟨0, .data⟩], none⟩,
 ⟨some 5, .call { callee := .value (.func 71), args := #[.tmp 4], argTypes := #[9] }, 4, "score.go:18", #[⟨1, .data⟩], none⟩,
 ⟨some 6, .call { callee := .value (.func 47), args := #[.tmp 5, .const (.int .i64 5)], argTypes := #[4, 35] }, 35, "score.go:18", #[⟨2, .data⟩, ⟨2, .chain⟩], none⟩,
 ⟨some 7, .fieldAddr 120 (.tmp 1) 1, 0, "score.go:17", #[], none⟩,
 ⟨some 8, .load 3 (.tmp 7), 3, "score.go:17", #[⟨4, .data⟩], none⟩,
 ⟨some 9, .call { callee := .value (.func 137), args := #[.tmp 8], argTypes := #[3] }, 4, "score.go:19", #[⟨5, .data⟩, ⟨3, .chain⟩], none⟩,
 ⟨some 10, .call { callee := .value (.func 47), args := #[.tmp 9, .const (.int .i64 1)], argTypes := #[4, 35] }, 35, "score.go:19", #[⟨6, .data⟩, ⟨6, .chain⟩], none⟩,
 ⟨some 11, .fieldAddr 120 (.tmp 1) 2, 0, "score.go:17", #[], none⟩,
 ⟨some 12, .load 118 (.tmp 11), 118, "score.go:17", #[⟨8, .data⟩], none⟩,
 ⟨some 13, .call { callee := .builtin .len, args := #[.tmp 12], argTypes := #[118] }, 3, "score.go:17", #[⟨9, .data⟩], none⟩,
 ⟨some 14, .makeFunc (.func 138) #[] #[.tmp 1], 109, "score.go:17", #[], none⟩,
 ⟨some 15, .call { callee := .value (.func 68), args := #[.tmp 13, .const (.int .i64 40), .tmp 14], argTypes := #[3, 3, 109] }, 35, "score.go:20", #[⟨10, .data⟩, ⟨11, .data⟩, ⟨7, .chain⟩], none⟩,
 ⟨some 16, .buildSlice 90 3 #[(0, .tmp 6), (1, .tmp 10), (2, .tmp 15)], 90, "score.go:17", #[⟨3, .data⟩, ⟨7, .data⟩, ⟨12, .data⟩], none⟩,
 ⟨some 17, .call { callee := .value (.func 46), args := #[.tmp 16], argTypes := #[90] }, 35, "score.go:17", #[⟨13, .data⟩, ⟨12, .chain⟩], none⟩,
 ⟨some 2, .assign (.tmp 17), 35, "score.go:17", #[⟨14, .data⟩, ⟨14, .chain⟩, ⟨0, .phase⟩, ⟨1, .phase⟩, ⟨2, .phase⟩, ⟨3, .phase⟩, ⟨4, .phase⟩, ⟨5, .phase⟩, ⟨6, .phase⟩, ⟨7, .phase⟩, ⟨8, .phase⟩, ⟨9, .phase⟩, ⟨10, .phase⟩, ⟨11, .phase⟩, ⟨12, .phase⟩, ⟨13, .phase⟩, ⟨14, .phase⟩], none⟩]
theorem o119_1_0 : o119_1[0]? = some (⟨some 3, .fieldAddr 120 (.tmp 1) 0, 0, "score.go:17", #[], none⟩ : Go.Oper) := rfl
theorem o119_1_1 : o119_1[1]? = some (⟨some 4, .load 9 (.tmp 3), 9, "score.go:17", #[⟨0, .data⟩], none⟩ : Go.Oper) := rfl
theorem o119_1_2 : o119_1[2]? = some (⟨some 5, .call { callee := .value (.func 71), args := #[.tmp 4], argTypes := #[9] }, 4, "score.go:18", #[⟨1, .data⟩], none⟩ : Go.Oper) := rfl
theorem o119_1_3 : o119_1[3]? = some (⟨some 6, .call { callee := .value (.func 47), args := #[.tmp 5, .const (.int .i64 5)], argTypes := #[4, 35] }, 35, "score.go:18", #[⟨2, .data⟩, ⟨2, .chain⟩], none⟩ : Go.Oper) := rfl
theorem o119_1_4 : o119_1[4]? = some (⟨some 7, .fieldAddr 120 (.tmp 1) 1, 0, "score.go:17", #[], none⟩ : Go.Oper) := rfl
theorem o119_1_5 : o119_1[5]? = some (⟨some 8, .load 3 (.tmp 7), 3, "score.go:17", #[⟨4, .data⟩], none⟩ : Go.Oper) := rfl
theorem o119_1_6 : o119_1[6]? = some (⟨some 9, .call { callee := .value (.func 137), args := #[.tmp 8], argTypes := #[3] }, 4, "score.go:19", #[⟨5, .data⟩, ⟨3, .chain⟩], none⟩ : Go.Oper) := rfl
theorem o119_1_7 : o119_1[7]? = some (⟨some 10, .call { callee := .value (.func 47), args := #[.tmp 9, .const (.int .i64 1)], argTypes := #[4, 35] }, 35, "score.go:19", #[⟨6, .data⟩, ⟨6, .chain⟩], none⟩ : Go.Oper) := rfl
theorem o119_1_8 : o119_1[8]? = some (⟨some 11, .fieldAddr 120 (.tmp 1) 2, 0, "score.go:17", #[], none⟩ : Go.Oper) := rfl
theorem o119_1_9 : o119_1[9]? = some (⟨some 12, .load 118 (.tmp 11), 118, "score.go:17", #[⟨8, .data⟩], none⟩ : Go.Oper) := rfl
theorem o119_1_10 : o119_1[10]? = some (⟨some 13, .call { callee := .builtin .len, args := #[.tmp 12], argTypes := #[118] }, 3, "score.go:17", #[⟨9, .data⟩], none⟩ : Go.Oper) := rfl
theorem o119_1_11 : o119_1[11]? = some (⟨some 14, .makeFunc (.func 138) #[] #[.tmp 1], 109, "score.go:17", #[], none⟩ : Go.Oper) := rfl
theorem o119_1_12 : o119_1[12]? = some (⟨some 15, .call { callee := .value (.func 68), args := #[.tmp 13, .const (.int .i64 40), .tmp 14], argTypes := #[3, 3, 109] }, 35, "score.go:20", #[⟨10, .data⟩, ⟨11, .data⟩, ⟨7, .chain⟩], none⟩ : Go.Oper) := rfl
theorem o119_1_13 : o119_1[13]? = some (⟨some 16, .buildSlice 90 3 #[(0, .tmp 6), (1, .tmp 10), (2, .tmp 15)], 90, "score.go:17", #[⟨3, .data⟩, ⟨7, .data⟩, ⟨12, .data⟩], none⟩ : Go.Oper) := rfl
theorem o119_1_14 : o119_1[14]? = some (⟨some 17, .call { callee := .value (.func 46), args := #[.tmp 16], argTypes := #[90] }, 35, "score.go:17", #[⟨13, .data⟩, ⟨12, .chain⟩], none⟩ : Go.Oper) := rfl
theorem o119_1_15 : o119_1[15]? = some (⟨some 2, .assign (.tmp 17), 35, "score.go:17", #[⟨14, .data⟩, ⟨14, .chain⟩, ⟨0, .phase⟩, ⟨1, .phase⟩, ⟨2, .phase⟩, ⟨3, .phase⟩, ⟨4, .phase⟩, ⟨5, .phase⟩, ⟨6, .phase⟩, ⟨7, .phase⟩, ⟨8, .phase⟩, ⟨9, .phase⟩, ⟨10, .phase⟩, ⟨11, .phase⟩, ⟨12, .phase⟩, ⟨13, .phase⟩, ⟨14, .phase⟩], none⟩ : Go.Oper) := rfl
theorem o119_1_ns : Go.Region.noSelect o119_1 = true := by kernel_rfl
set_option maxRecDepth 100000 in
set_option maxHeartbeats 8000000 in
theorem checkLine_calls (lo : Nat) (l : LD) (x : Value) (w : World) (hT : Tds w lo x l.stats) (hs : SmallL l) : Calls Tryz.prog 119 #[lnV l x] w (IntBelow (lnE l) w) := by
 obtain ⟨sa, sc, rfl⟩ := tds_shape hT
 obtain ⟨W, hW⟩ : ∃ W, W = w.alloc (.cells #[.string l.player, .int .i64 l.week, .slice sa l.stats.length sc] 120) := ⟨_, rfl⟩
 have hwW : Below w.heap.size w W := by rw [hW]; exact below_alloc w _
 have hx : W.heap[w.heap.size]? = some (.cells #[.string l.player, .int .i64 l.week, .slice sa l.stats.length sc] 120 (0, 0)) := by rw [hW]; exact heap_alloc_new w _
 have x0 := cell_at hx 0 rfl
 have x1 := cell_at hx 1 rfl
 have x2 := cell_at hx 2 rfl
 have hTW := hT.below hwW
 have hb0 := (Below.refl W.heap.size W).drew
 obtain ⟨hs1, -, hs3, hs4⟩ := hs
 have Hs4 := Lib.hid hs4
 have HS := Lib.hid (show ∀ w', Below W.heap.size W w' → (Below W.heap.size W w' ∧ w'.cell? ⟨w.heap.size, 0, none⟩ = some (.string l.player) ∧ w'.cell? ⟨w.heap.size, 1, none⟩ = some (.int .i64 l.week) ∧ w'.cell? ⟨w.heap.size, 2, none⟩ = some (.slice sa l.stats.length sc)) from fun w' hb => ⟨hb, below_cell hb x0, below_cell hb x1, below_cell hb x2⟩)
 have hf : ∀ (V W2 : World) (i : Nat), Below W.heap.size W V → i < l.stats.length → Below V.heap.size V W2 → Calls Tryz.prog 138 (#[.int .i64 (i : Int)] ++ #[.pointer (some ⟨w.heap.size, 0, none⟩)]) W2 (IntBelow (tdF l.stats i) W2) := by
  intro V W2 i hV hi hb; have hbW := below_step hV hb; obtain ⟨t, ht⟩ : ∃ t, l.stats[i]? = some t := ⟨l.stats[i], List.getElem?_eq_getElem hi⟩
  have hT2 := hTW.below hbW; have y2 := below_cell hbW x2; rcases tds_at hT2 with ⟨_, h⟩ | ⟨g, off, cap, e, _⟩
  ·rw [h] at hi; simp at hi
  ·rw [e] at hT2 y2
   exact checkLine1_calls w.heap.size g off cap i lo l.stats t W2 ht (Hs4.out t (List.mem_of_getElem? ht)) (by omega) y2 hT2
 have Hf := Lib.hid hf
 have hsn : l.stats.length ≤ 1000000 := by omega
 clear hf hT hTW x0 x1 x2 hx hs3 hs4
 unfold lnV
 go_enter Tryz.func119, Tryz.ntmps119
 go_upto_region 1 with fail
 rw [← hW]
 clear hW
 show Code.wp _ (Code.region 1 o119_1 true) _ _ _
 refine region_start 16 (fun w' => Below W.heap.size W w' ∧ w'.cell? ⟨w.heap.size, 0, none⟩ = some (.string l.player) ∧ w'.cell? ⟨w.heap.size, 1, none⟩ = some (.int .i64 l.week) ∧ w'.cell? ⟨w.heap.size, 2, none⟩ = some (.slice sa l.stats.length sc)) (by kernel_rfl) rfl ?_ (fun hHeld => ?_)
 ·(exact HS.out _ (by first | assumption | exact hHeld.1 | exact below_step hHeld.1 (by first | assumption | exact below_alloc _ _)))
 refine take_to 0 3 (bQ 16 1) (v := ?_) o119_1_0 rfl o119_1_ns (by kernel_rfl) (by kernel_rfl) (fun _ _ _ h => h) (by rfl) ?y0 (by assumption) ?_
 case y0 => intro w h; (try dsimp only at h); go_simp; try with_reducible rfl
 simp only [sE0, sE1]
 refine take_to 1 4 (bQ 16 3) (v := ?_) o119_1_1 rfl o119_1_ns (by kernel_rfl) (by kernel_rfl) (fun _ _ _ h => h) (by rfl) ?y1 (by assumption) ?_
 case y1 => intro w h; (try dsimp only at h); go_simp; try with_reducible rfl
 simp only [sE0, sE1]
 refine take_to 4 7 (bQ 16 19) (v := ?_) o119_1_4 rfl o119_1_ns (by kernel_rfl) (by kernel_rfl) (fun _ _ _ h => h) (by rfl) ?y4 (by assumption) ?_
 case y4 => intro w h; (try dsimp only at h); go_simp; try with_reducible rfl
 simp only [sE0, sE1]
 refine take_to 5 8 (bQ 16 51) (v := ?_) o119_1_5 rfl o119_1_ns (by kernel_rfl) (by kernel_rfl) (fun _ _ _ h => h) (by rfl) ?y5 (by assumption) ?_
 case y5 => intro w h; (try dsimp only at h); go_simp; try with_reducible rfl
 simp only [sE0, sE1]
 refine take_to 8 11 (bQ 16 307) (v := ?_) o119_1_8 rfl o119_1_ns (by kernel_rfl) (by kernel_rfl) (fun _ _ _ h => h) (by rfl) ?y8 (by assumption) ?_
 case y8 => intro w h; (try dsimp only at h); go_simp; try with_reducible rfl
 simp only [sE0, sE1]
 refine take_to 9 12 (bQ 16 819) (v := ?_) o119_1_9 rfl o119_1_ns (by kernel_rfl) (by kernel_rfl) (fun _ _ _ h => h) (by rfl) ?y9 (by assumption) ?_
 case y9 => intro w h; (try dsimp only at h); go_simp; try with_reducible rfl
 simp only [sE0, sE1]
 refine take_to 10 13 (bQ 16 1843) (v := ?_) o119_1_10 rfl o119_1_ns (by kernel_rfl) (by kernel_rfl) (fun _ _ _ h => h) (by rfl) ?y10 (by assumption) ?_
 case y10 => intro w h; (try dsimp only at h); go_simp; try with_reducible rfl
 simp only [sE0, sE1]
 refine take_to 11 14 (bQ 16 3891) (v := ?_) o119_1_11 rfl o119_1_ns (by kernel_rfl) (by kernel_rfl) (fun _ _ _ h => h) (by rfl) ?y11 (by assumption) ?_
 case y11 => intro w h; (try dsimp only at h); go_simp; try with_reducible rfl
 simp only [sE0, sE1]
 refine run_to 2 (bQ 16 3895) o119_1_2 (by kernel_rfl) (by kernel_rfl) (by rfl) (fun K hK => ?_)
 go_simp
 refine (key_calls _ _ (by omega)).mono ?_
 rintro e w' ⟨rfl, rfl⟩
 go_wp2_with fail
 refine hK.out _ _ ?_ (fun hHeld => ?_)
 ·(exact HS.out _ (by first | assumption | exact hHeld.1 | exact below_step hHeld.1 (by first | assumption | exact below_alloc _ _)))
 clear hK K
 try simp only [Act.put, sEt, sE0, sE1]
 refine run_to 3 (bQ 16 3903) o119_1_3 (by kernel_rfl) (by kernel_rfl) (by rfl) (fun K hK => ?_)
 go_simp
 refine (unless_calls _ _ _).mono ?_
 rintro e w' ⟨rfl, rfl⟩
 go_wp2_with fail
 refine hK.out _ _ ?_ (fun hHeld => ?_)
 ·(exact HS.out _ (by first | assumption | exact hHeld.1 | exact below_step hHeld.1 (by first | assumption | exact below_alloc _ _)))
 clear hK K
 try simp only [Act.put, sEt, sE0, sE1]
 refine run_to 6 (bQ 16 3967) o119_1_6 (by kernel_rfl) (by kernel_rfl) (by rfl) (fun K hK => ?_)
 go_simp
 refine (week_calls _ _).mono ?_
 rintro e w' ⟨rfl, rfl⟩
 go_wp2_with fail
 refine hK.out _ _ ?_ (fun hHeld => ?_)
 ·(exact HS.out _ (by first | assumption | exact hHeld.1 | exact below_step hHeld.1 (by first | assumption | exact below_alloc _ _)))
 clear hK K
 try simp only [Act.put, sEt, sE0, sE1]
 refine run_to 7 (bQ 16 4095) o119_1_7 (by kernel_rfl) (by kernel_rfl) (by rfl) (fun K hK => ?_)
 go_simp
 refine (unless_calls _ _ _).mono ?_
 rintro e w' ⟨rfl, rfl⟩
 go_wp2_with fail
 refine hK.out _ _ ?_ (fun hHeld => ?_)
 ·(exact HS.out _ (by first | assumption | exact hHeld.1 | exact below_step hHeld.1 (by first | assumption | exact below_alloc _ _)))
 clear hK K
 try simp only [Act.put, sEt, sE0, sE1]
 refine run_to 12 (bQ 16 8191) o119_1_12 (by kernel_rfl) (by kernel_rfl) (by rfl) (fun K hK => ?_)
 go_simp
 refine (each_calls 138 #[.pointer (some ⟨w.heap.size, 0, none⟩)] (enters_of Tryz.func138 (by kernel_rfl) rfl) (tdF l.stats) l.stats.length 40 _ hsn (by exact fun W2 i hi hb => Hf.out _ W2 i hHeld.1 hi hb)).mono ?_
 rintro e w' ⟨rfl, hb⟩
 go_wp2_with fail
 refine hK.out _ _ ?_ (fun hHeld => ?_)
 ·(exact HS.out _ (by first | assumption | exact hHeld.1 | exact below_step hHeld.1 (by first | assumption | exact below_alloc _ _)))
 clear hK K
 try simp only [Act.put, sEt, sE0, sE1]
 refine run_to 13 (bQ 16 16383) o119_1_13 (by kernel_rfl) (by kernel_rfl) (by rfl) (fun K hK => ?_)
 go_simp
 refine hK.out _ _ ?_ (fun hHeld => ?_)
 ·(exact HS.out _ (by first | assumption | exact hHeld.1 | exact below_step hHeld.1 (by first | assumption | exact below_alloc _ _)))
 clear hK K
 try simp only [Act.put, sEt, sE0, sE1]
 refine run_to 14 (bQ 16 32767) o119_1_14 (by kernel_rfl) (by kernel_rfl) (by rfl) (fun K hK => ?_)
 go_simp
 refine (orE_calls _ 0 3 [unlessE (keyB l.player) 5, unlessE (betwB l.week 1 60) 1, eachE l.stats.length 40 (tdF l.stats)] _ (by simp) (by exact nums3' _ _ _ _ _)).mono ?_
 rintro e w' ⟨rfl, rfl⟩
 go_wp2_with fail
 refine hK.out _ _ ?_ (fun hHeld => ?_)
 ·(exact HS.out _ (by first | assumption | exact hHeld.1 | exact below_step hHeld.1 (by first | assumption | exact below_alloc _ _)))
 clear hK K
 try simp only [Act.put, sEt, sE0, sE1]
 refine take_to 15 2 (bQ 16 65535) (v := ?_) o119_1_15 rfl o119_1_ns (by kernel_rfl) (by kernel_rfl) (fun _ _ _ h => h) (by rfl) ?y15 (by assumption) ?_
 case y15 => intro w h; (try dsimp only at h); go_simp; try with_reducible rfl
 simp only [sE0, sE1]
 refine wpAnyH_done (by kernel_rfl) ?_ _
 go_wp2_with fail
 go_ret
 exact ⟨rfl, below_step hwW hHeld.1⟩

/-- What is wrong with rules and positions. -/
def wrE (rs : List RD) (ks : List ByteArray) : Int := firstE [chkRl rs, eachE ks.length 10 (risF ks)]
set_option maxRecDepth 100000 in
set_option maxHeartbeats 1000000 in
theorem wrongRules_calls (lo lo' : Nat) (v u : Value) (rs : List RD) (ks : List ByteArray) (w : World) (hR : Rls w lo v rs) (hs : ∀ r ∈ rs, SmallR r) (hn : rs.length ≤ 1000000) (hK : Strs w lo' u ks) (hk : ∀ k ∈ ks, k.size ≤ 1000) (hkn : ks.length ≤ 1000000) :
  Calls Tryz.prog 118 #[v, u] w (IntBelow (wrE rs ks) w) := by
 have C1 := Lib.hid (checkRules_calls lo v rs w hR hs hn)
 have C2 := fun w' (hb : Below w.heap.size w w') => Lib.hid (rising_calls lo' u ks 10 w' (hK.below hb) hk hkn)
 clear hR hs hK hk
 go_enter Tryz.func118, Tryz.ntmps118
 go_wp2_with fail
 refine C1.out.mono ?_
 rintro e w1 ⟨rfl, hb1⟩
 go_wp2_with fail
 refine (C2 w1 hb1).out.mono ?_
 rintro e w2 ⟨rfl, hb2⟩
 go_wp2_with fail
 refine (orE_calls _ 0 2 [chkRl rs, eachE ks.length 10 (risF ks)] _ (by simp) (by exact nums2 _ _ _ _)).mono ?_
 rintro e w3 ⟨rfl, rfl⟩
 go_wp2_with fail
 go_ret
 exact ⟨rfl, below_step (below_step hb1 hb2) (below_alloc _ _)⟩
end Go.Proofs.YtfcaokpadodijaaGreat
/- How often something was done, and what a rule gives for it. -/
namespace Go.Proofs.YtfcaokpadodijaaGreat
open Go.RowKit

theorem td_of {ps : List ByteArray} {ts : List TD} (h : ∀ i : Nat, ps[i]? = ts[i]?.map TD.name) {i : Nat} (hi : i < ps.length) : ∃ t, ts[i]? = some t := by
 have := h i
 rw [List.getElem?_eq_getElem hi] at this
 cases ht : ts[i]? with
 | none => rw [ht] at this; simp at this
 | some t => exact ⟨t, rfl⟩
set_option maxRecDepth 100000 in
set_option maxHeartbeats 400000 in
theorem find1_calls (t : TD) (who : ByteArray) (w : World) :
  Calls Tryz.prog 165 #[.agg #[.string t.name, .int .i64 t.count], .string who] w (IntBelow (cmpS t.name who) w) := by
 go_enter Tryz.func165, Tryz.ntmps165
 go_wp2_with fail
 refine (strCompare_calls t.name who _).mono ?_
 rintro e w' ⟨rfl, rfl⟩
 rw [cmpS_eq]
 go_wp2_with fail
 go_ret
 exact ⟨rfl, below_alloc w _⟩

set_option maxRecDepth 100000 in
set_option maxHeartbeats 1000000 in
theorem binarySearch_calls (lo : Nat) (who : ByteArray) (v : Value) (ts : List TD) (w : World) (hp : Tds w lo v ts) :
  Calls Tryz.prog 164 #[v, .string who, .func (.func 165) #[] #[]] w (Found (ts.map TD.name) who w) := by
 rcases tds_at hp with ⟨rfl, rfl⟩ | ⟨g, off, cap, rfl, _, hg, hn, hcell⟩
 ·clear hp
  go_enter Tryz.func164, Tryz.ntmps164; go_wp2
  refine wp_loop_rounds 1 ?_; rw [rounds_succ]; go_wp2
  go_ret2
  exact ⟨rfl, Below.refl _ _⟩
 ·clear hp
  obtain ⟨ps, hps⟩ : ∃ ps, ps = ts.map TD.name := ⟨_, rfl⟩
  have hpl : ts.length = ps.length := by rw [hps]; simp
  have Hpt := Lib.hid (show ∀ i : Nat, ps[i]? = ts[i]?.map TD.name from fun i => by rw [hps]; simp)
  have Hbs := Lib.hid hps; rw [← hps, hpl]; rw [hpl] at hn
  clear hps hpl; go_enter Tryz.func164, Tryz.ntmps164; go_wp2_with fail
  go_loopw [9, 10] (fun a b wr => ∃ i j : Nat, i ≤ j ∧ j ≤ ps.length ∧ a = .int .i64 i ∧ b = .int .i64 j ∧ Below w.heap.size w wr ∧ Hid (∃ f, bsI ps who = bs ps who f i j ∧ j - i ≤ f)) (fun a b _ => (intOf b).toNat - (intOf a).toNat)
  case atStart => exact ⟨0, ps.length, by omega, by omega, rfl, rfl, Below.refl _ _, Lib.hid ⟨ps.length, rfl, by omega⟩⟩
  case round =>
   obtain ⟨i, j, hij, hj, rfl, rfl, hb, Hf⟩ := hrel; by_cases hlt : i < j
   ·have hh : (i + j) / 2 < ps.length := by omega
    obtain ⟨p, hpt⟩ : ∃ p, ts[(i + j) / 2]? = some p := td_of Hpt.out hh
    have Hk := Lib.hid (show keyAt ps ((i + j) / 2) = p.name from keyAt_some (by rw [Hpt.out, hpt]; rfl))
    obtain ⟨h0, h1⟩ := hcell _ p hpt; have g0 := below_cell hb h0; have g1 := below_cell hb h1; clear hpt h0 h1 hcell; go_wp2_with fail
    refine (find1_calls p who _).mono ?_; rintro e w' ⟨rfl, hb'⟩; have hb2 := hb.trans (hb'.mono hb.size); cases hl : ltS p.name who
    ·have e1 : decide (cmpS p.name who < 0) = false := by rw [cmpS_neg, hl]
     have Hf' := Lib.hid (show ∃ f, bsI ps who = bs ps who f i ((i + j) / 2) ∧ (i + j) / 2 - i ≤ f by
      obtain ⟨f, h1, h2⟩ := Hf.out; obtain ⟨f', h3, h4⟩ := bs_right hlt h2 (by rw [Hk.out]; exact hl)
      exact ⟨f', h1.trans h3, h4⟩)
     clear hl; go_wp2_with fail
     go_roundw
     case rel => exact ⟨i, (i + j) / 2, by omega, by omega, rfl, by go_num, hb2, Hf'⟩
     case measure => simp [intOf]; omega
    ·have e1 : decide (cmpS p.name who < 0) = true := by rw [cmpS_neg, hl]
     have Hf' := Lib.hid (show ∃ f, bsI ps who = bs ps who f ((i + j) / 2 + 1) j ∧ j - ((i + j) / 2 + 1) ≤ f by
      obtain ⟨f, h1, h2⟩ := Hf.out; obtain ⟨f', h3, h4⟩ := bs_left hlt h2 (by rw [Hk.out]; exact hl)
      exact ⟨f', h1.trans h3, h4⟩)
     clear hl; go_wp2_with fail
     go_roundw
     case rel => exact ⟨(i + j) / 2 + 1, j, by omega, by omega, by go_num, rfl, hb2, Hf'⟩
     case measure => simp [intOf]; omega
   ·obtain rfl : i = j := by omega
    have HI := Lib.hid (show bsI ps who = i by
     obtain ⟨f, h1, _⟩ := Hf.out; rw [h1, bs_end (by omega)])
    clear hlt hij; by_cases hin : i < ps.length
    ·obtain ⟨p, hpt⟩ : ∃ p, ts[i]? = some p := td_of Hpt.out hin
     have Hk := Lib.hid (show keyAt ps i = p.name from keyAt_some (by rw [Hpt.out, hpt]; rfl))
     obtain ⟨h0, h1⟩ := hcell _ p hpt; have g0 := below_cell hb h0; have g1 := below_cell hb h1; clear hpt h0 h1 hcell; go_wp2_with fail
     refine (find1_calls p who _).mono ?_; rintro e w' ⟨rfl, hb'⟩; have hb2 := hb.trans (hb'.mono hb.size)
     have Hq := Lib.hid (show (cmpS p.name who == 0) = knownB ps who by
      unfold knownB; rw [HI.out, Hk.out]; simp only [hin, decide_true, Bool.true_and]; exact cmpS_zero _ _)
     have Hq' := Lib.hid (show (cmpS p.name who == 0) = true ∨ (cmpS p.name who == 0) = false by cases (cmpS p.name who == 0) <;> simp)
     rcases Hq'.out with hq | hq
     ·go_wp2_with fail
      go_ret2
      refine ⟨?_, hb2⟩; rw [HI.out, ← Hq.out, hq]; rfl
     ·go_wp2_with fail
      go_ret2
      refine ⟨?_, hb2⟩; rw [HI.out, ← Hq.out, hq]; rfl
    ·have Hq := Lib.hid (show knownB ps who = false by unfold knownB; rw [HI.out]; simp [hin])
     go_wp2_with fail
     go_ret2
     refine ⟨?_, hb⟩
     rw [HI.out, Hq.out]; rfl

/-- How often something was done. -/
def cntB (ts : List TD) (stat : ByteArray) : Int := if knownB (ts.map TD.name) stat then (tdAt ts (bsI (ts.map TD.name) stat)).count else 0
theorem known_lt {ps : List ByteArray} {who : ByteArray} (h : knownB ps who = true) : bsI ps who < ps.length := by
 unfold knownB at h
 rw [Bool.and_eq_true] at h
 simpa using h.1
set_option maxRecDepth 100000 in
set_option maxHeartbeats 1000000 in
theorem count_calls (lo : Nat) (l : LD) (x : Value) (stat : ByteArray) (w : World) (hT : Tds w lo x l.stats) : Calls Tryz.prog 151 #[lnV l x, .string stat] w (IntBelow (cntB l.stats stat) w) := by
 obtain ⟨sa, sc, rfl⟩ := tds_shape hT
 have hb0 := below_alloc w (.cells #[.string l.player, .int .i64 l.week, .slice sa l.stats.length sc] 120)
 have hT1 := hT.below hb0
 have hx := heap_alloc_new w (.cells #[.string l.player, .int .i64 l.week, .slice sa l.stats.length sc] 120)
 have C := Lib.hid (binarySearch_calls lo stat _ l.stats _ hT1)
 clear hT
 unfold lnV
 go_enter Tryz.func151, Tryz.ntmps151
 go_wp2_with fail
 refine C.out.mono ?_
 rintro e w' ⟨rfl, hb⟩
 have hx2 := cells_later hx hb
 have z2 := cell_at hx2 2 rfl
 have hT2 := hT1.below hb
 have Hb := Lib.hid (below_step hb0 hb)
 clear hx hx2 hT1 hb hb0 C
 cases hk : knownB (l.stats.map TD.name) stat
 ·have HC := Lib.hid (show cntB l.stats stat = 0 by simp [cntB, hk])
  clear hk hT2; go_wp2_with fail
  go_ret
  exact ⟨ret_int HC.out.symm, Hb.out⟩
 ·have HC := Lib.hid (show cntB l.stats stat = (tdAt l.stats (bsI (l.stats.map TD.name) stat)).count by simp [cntB, hk])
  have hlt : bsI (l.stats.map TD.name) stat < l.stats.length := by simpa using known_lt hk
  generalize bsI (l.stats.map TD.name) stat = q at hlt HC ⊢
  obtain ⟨t, ht⟩ : ∃ t, l.stats[q]? = some t := ⟨_, List.getElem?_eq_getElem hlt⟩
  have HC2 := Lib.hid (show cntB l.stats stat = t.count by rw [HC.out, tdAt_some ht])
  rcases tds_at hT2 with ⟨_, h⟩ | ⟨g, off, cap, e, _, hg, hn, hcell⟩
  ·rw [h] at hlt; simp at hlt
  obtain ⟨p0, p1⟩ := hcell q t ht; rw [e] at z2
  clear hk hT2 hcell HC ht e; go_wp2_with fail
  go_ret
  exact ⟨ret_int HC2.out.symm, Hb.out⟩

def onceI (b : Bool) : Int := if b then 1 else 0
set_option maxHeartbeats 400000 in
theorem once_calls (b : Bool) (w : World) : Calls Tryz.prog 163 #[.bool b] w fun e w' => e = .returned (.int .i64 (onceI b)) ∧ w = w' := by
 cases b
 ·go_enter Tryz.func163, Tryz.ntmps163
  go_wp2
  go_ret
  exact ⟨rfl, rfl⟩
 ·go_enter Tryz.func163, Tryz.ntmps163
  go_wp2
  go_ret
  exact ⟨rfl, rfl⟩
/-- How many times a rule gives its Worth. -/
def timesI (kind many n : Int) : Int := if kind = 1 then n else if kind = 2 then (max n 0).tdiv many else if kind = 3 then onceI (decide (many ≤ n)) else onceI (n == 0)
set_option maxRecDepth 100000 in
set_option maxHeartbeats 1000000 in
theorem times_calls (r : RD) (n : Int) (w : World) (hn : Int64 n) (hm : r.kind = 2 → 1 ≤ r.many) : Calls Tryz.prog 150 #[rlV r, .int .i64 n] w fun e w' => e = .returned (.int .i64 (timesI r.kind r.many n)) ∧ Below w.heap.size w w' := by
 have hb := below_alloc w (.cells (rlRow r).toArray 114)
 unfold rlRow at hb
 unfold rlV
 by_cases h1 : r.kind = 1
 ·have e1 : (r.kind == 1) = true := by simp [h1]
  have HT := Lib.hid (show timesI r.kind r.many n = n by simp [timesI, h1])
  clear h1 hm; go_enter Tryz.func150, Tryz.ntmps150; go_wp2_with fail
  go_ret
  exact ⟨ret_int HT.out.symm, hb⟩
 ·have e1 : (r.kind == 1) = false := by simp [h1]
  by_cases h2 : r.kind = 2
  ·have e2 : (r.kind == 2) = true := by simp [h2]
   have HT := Lib.hid (show timesI r.kind r.many n = (max n 0).tdiv r.many by simp [timesI, h2])
   have hm1 := hm h2; have hmx : Int64 (max n 0) := by unfold Int64 at *; omega
   have hq := tdiv_64 hmx (show 0 < r.many by omega)
   obtain ⟨hq1, hq2⟩ := hq; have hne : r.many ≠ 0 := by omega
   generalize hM : max n 0 = M at HT hq1 hq2
   clear h1 h2 hm hmx hn; go_enter Tryz.func150, Tryz.ntmps150; go_wp2_with fail
   go_ret
   exact ⟨ret_int HT.out.symm, hb⟩
  ·have e2 : (r.kind == 2) = false := by simp [h2]
   by_cases h3 : r.kind = 3
   ·have e3 : (r.kind == 3) = true := by simp [h3]
    have HT := Lib.hid (show timesI r.kind r.many n = onceI (decide (r.many ≤ n)) by simp [timesI, h3])
    clear h1 h2 h3 hm; go_enter Tryz.func150, Tryz.ntmps150; go_wp2_with fail
    refine (once_calls _ _).mono ?_; rintro e w' ⟨rfl, rfl⟩; go_wp2_with fail
    go_ret
    exact ⟨ret_int HT.out.symm, hb⟩
   ·have e3 : (r.kind == 3) = false := by simp [h3]
    have HT := Lib.hid (show timesI r.kind r.many n = onceI (n == 0) by simp [timesI, h1, h2, h3])
    clear h1 h2 h3 hm; go_enter Tryz.func150, Tryz.ntmps150; go_wp2_with fail
    refine (once_calls _ _).mono ?_; rintro e w' ⟨rfl, rfl⟩; go_wp2_with fail
    go_ret
    exact ⟨ret_int HT.out.symm, hb⟩
end Go.Proofs.YtfcaokpadodijaaGreat
namespace Go.Proofs.YtfcaokpadodijaaGreat
open Go.RowKit

structure FiD where
 slot : ByteArray
 who : ByteArray
def fiRow (f : FiD) : List Value := [.string f.slot, .string f.who]
def Fis (w : World) (lo : Nat) (v : Value) (fs : List FiD) : Prop := Rows w 49 lo 2 v (fs.map fiRow)
theorem Fis.below {w w' : World} {lo : Nat} {v : Value} {fs : List FiD} (h : Fis w lo v fs) (hb : Below w.heap.size w w') : Fis w' lo v fs := Rows.below h hb
theorem Fis.other {w w' : World} {lo B : Nat} {v : Value} {fs : List FiD} (h : Fis w lo v fs) (hg : w.grownBy w' (some B)) (hB : B < lo) : Fis w' lo v fs := Rows.other h hg hB
theorem fis_at {w : World} {lo : Nat} {v : Value} {ts : List FiD} (h : Fis w lo v ts) :
  (v = .slice none 0 0 ∧ ts = []) ∨ ∃ g off cap, v = .slice (some ⟨g, off, none⟩) ts.length cap ∧ lo ≤ g ∧ g < w.heap.size ∧ ts.length ≤ 1000000 ∧
   ∀ (i : Nat) (t : FiD), ts[i]? = some t → w.cell? ⟨g, off + i * 2, none⟩ = some (.string t.slot) ∧ w.cell? ⟨g, off + i * 2 + 1, none⟩ = some (.string t.who) := by
 rcases rows_at h with ⟨e1, e2⟩ | ⟨g, off, cap, e1, e2, e3, hc⟩
 ·exact .inl ⟨e1, by simpa using e2⟩
 ·refine .inr ⟨g, off, cap, by simpa using e1, e2, e3, by simpa using h.small, fun i t ht => ?_⟩
  have hx : ∀ (j : Nat) (u : Value), (fiRow t)[j]? = some u → w.cell? ⟨g, off + i * 2 + j, none⟩ = some u := fun j u hu => hc i j u (by simpa [ht] using hu)
  exact ⟨hx 0 _ rfl, hx 1 _ rfl⟩
theorem fis_shape {w : World} {lo : Nat} {v : Value} {ts : List FiD} (h : Fis w lo v ts) : ∃ a c, v = .slice a ts.length c := by
 rcases fis_at h with ⟨rfl, rfl⟩ | ⟨g, off, cap, rfl, _⟩
 ·exact ⟨none, 0, rfl⟩
 ·exact ⟨_, _, rfl⟩
theorem fi_each (ts : List FiD) : ∀ r ∈ ts.map fiRow, r.length = 2 := by
 intro r hr
 obtain ⟨t, _, rfl⟩ := List.mem_map.1 hr
 rfl
theorem fis_of_owns {w : World} {base : Nat} {v : Value} {ts : List FiD} (h : w.ownsRow base 49 2 v ts.length (ts.map fiRow).flatten) (hs : ts.length ≤ 1000000) : Fis w base v ts :=
 Rows.of_owns (by simpa using h) (by simpa using hs) (fi_each ts)
/-- What a look for the first one gives. -/
def IdxFirstF (p : FiD → Bool) (fs : List FiD) (w : World) (e : Ending) (w' : World) : Prop :=
 ((e = .returned (.int .i64 (-1)) ∧ ∀ f ∈ fs, p f = false) ∨ ∃ i f, e = .returned (.int .i64 ((i : Nat) : Int)) ∧ fs[i]? = some f ∧ p f = true ∧ ∀ j g, j < i → fs[j]? = some g → p g = false) ∧ Below w.heap.size w w'
set_option maxRecDepth 100000 in
set_option maxHeartbeats 1000000 in
theorem indexFi_calls (g : Nat) (caps : Array Value) (p : FiD → Bool) (lo : Nat) (v : Value) (fs : List FiD) (w : World) (hv : Fis w lo v fs) (eg : ∀ args w, (callFunc g args).run Tryz.prog w = .ok (.enter g args) w)
  (hp : ∀ (W : World) (f : FiD), Below w.heap.size w W → Calls Tryz.prog g (#[.agg #[.string f.slot, .string f.who]] ++ caps) W (BoolIs (p f) W)) :
  Calls Tryz.prog 62 #[v, .func (.func g) #[] caps] w (IdxFirstF p fs w) := by
 have Hp := Lib.hid hp
 clear hp
 rcases fis_at hv with ⟨rfl, rfl⟩ | ⟨gg, off, cap, rfl, hlo, hg, hn, hcell⟩
 ·clear hv
  go_enter Tryz.func62, Tryz.ntmps62; go_wp2_with fail
  refine wp_loop_rounds 1 ?_; rw [rounds_succ]; go_wp2_with fail
  go_ret
  exact ⟨.inl ⟨rfl, by simp⟩, Below.refl _ _⟩
 ·have Hc := Lib.hid hcell
  clear hv hcell; go_enter Tryz.func62, Tryz.ntmps62; go_wp2_with fail
  go_loopw [8] (fun i wr => ∃ k : Nat, k ≤ fs.length ∧ i = .int .i64 k ∧ Hid (∀ j g, j < k → fs[j]? = some g → p g = false) ∧ Below w.heap.size w wr) (fun i _ => fs.length - (intOf i).toNat)
  case atStart => exact ⟨0, Nat.zero_le _, rfl, Lib.hid fun _ _ h => by omega, Below.refl _ _⟩
  case round =>
   obtain ⟨k, hk, rfl, H0, hb⟩ := hrel; by_cases hlt : k < fs.length
   ·obtain ⟨f, hf⟩ : ∃ f, fs[k]? = some f := ⟨fs[k], List.getElem?_eq_getElem hlt⟩
    obtain ⟨q0, q1⟩ := Hc.out k f hf; have g0 := below_cell hb q0; have g1 := below_cell hb q1; have Hf := Lib.hid hf; clear hf q0 q1; go_wp2_with fail
    refine (Hp.out _ f hb).mono ?_; rintro e w1 ⟨rfl, hb1⟩; have hb2 := below_step hb hb1; clear g0 g1; cases hpf : p f
    ·have H1 : Hid (∀ j g, j < k + 1 → fs[j]? = some g → p g = false) := Lib.hid fun j g hj hg' => by
      rcases Nat.lt_succ_iff_lt_or_eq.1 hj with h | rfl
      ·exact H0.out j g h hg'
      ·rw [Hf.out] at hg'; cases hg'; exact hpf
     clear hpf; go_wp2_with fail
     go_roundw
     case rel => exact ⟨k + 1, by omega, by go_num, H1, hb2⟩
     case measure => simp [intOf]; omega
    ·have Hq := Lib.hid hpf
     clear hpf; go_wp2_with fail
     go_ret
     exact ⟨.inr ⟨k, f, rfl, Hf.out, Hq.out, H0.out⟩, hb2⟩
   ·obtain rfl : k = fs.length := by omega
    go_wp2_with fail
    go_ret
    refine ⟨.inl ⟨rfl, fun f hf => ?_⟩, hb⟩
    obtain ⟨i, hi⟩ := List.getElem?_of_mem hf
    exact H0.out i f (List.getElem?_eq_some_iff.1 hi).1 hi

/-- Is one of a list so? -/
theorem containsFi_calls (g : Nat) (caps : Array Value) (p : FiD → Bool) (lo : Nat) (v : Value) (fs : List FiD) (w : World) (hv : Fis w lo v fs) (eg : ∀ args w, (callFunc g args).run Tryz.prog w = .ok (.enter g args) w)
  (hp : ∀ (W : World) (f : FiD), Below w.heap.size w W → Calls Tryz.prog g (#[.agg #[.string f.slot, .string f.who]] ++ caps) W (BoolIs (p f) W)) :
  Calls Tryz.prog 17 #[v, .func (.func g) #[] caps] w (BoolIs (fs.any p) w) := by
 have C := Lib.hid (indexFi_calls g caps p lo v fs w hv eg hp)
 obtain ⟨a, c, rfl⟩ := fis_shape hv
 clear hv hp eg
 go_enter Tryz.func17, Tryz.ntmps17
 go_wp2_with fail
 refine C.out.mono ?_
 rintro e w1 ⟨⟨rfl, h0⟩ | ⟨i, f, rfl, hf, hpf, _⟩, hb⟩
 ·have hr : fs.any p = false := by rw [List.any_eq_false]; intro x hx; rw [h0 x hx]; simp
  clear C h0; go_wp2_with fail
  go_ret
  exact ⟨ret_bool (by rw [hr]), hb⟩
 ·have hr : fs.any p = true := List.any_eq_true.2 ⟨f, List.mem_of_getElem? hf, hpf⟩
  clear C hf hpf; go_wp2_with fail
  go_ret
  exact ⟨ret_bool (by rw [hr]), hb⟩
/-- Is a player in a slot? -/
def inF (fs : List FiD) (k : ByteArray) : Bool := fs.any fun f => beqS f.who k
theorem fielded1_calls (f : FiD) (k : ByteArray) (X : Nat) (w : World) (hX : w.cell? ⟨X, 0, none⟩ = some (.string k)) :
  Calls Tryz.prog 91 #[.agg #[.string f.slot, .string f.who], .pointer (some ⟨X, 0, none⟩)] w (BoolIs (beqS f.who k) w) := by
 go_enter Tryz.func91, Tryz.ntmps91
 have hX1 := below_cell (below_alloc w (.cells #[.string f.slot, .string f.who] 49)) hX
 go_wp2_with fail
 go_ret
 exact ⟨ret_bool (by unfold beqS; rfl), below_alloc w _⟩
set_option maxHeartbeats 1000000 in
theorem fielded_calls (lo : Nat) (v : Value) (fs : List FiD) (k : ByteArray) (w : World) (hv : Fis w lo v fs) :
  Calls Tryz.prog 48 #[v, .string k] w (BoolIs (inF fs k) w) := by
 have hb0 := below_alloc w (.cells #[.string k] 9)
 have x0 : (w.alloc (.cells #[.string k] 9)).cell? ⟨w.heap.size, 0, none⟩ = some (.string k) := by rw [World.cell?_alloc_at _ _ _ _ rfl]; rfl
 have C := Lib.hid (containsFi_calls 91 #[.pointer (some ⟨w.heap.size, 0, none⟩)] (fun f => beqS f.who k) lo v fs _ (hv.below hb0) (by intro args w; go_simp) (fun W f hb => fielded1_calls f k w.heap.size W (below_cell hb x0)))
 obtain ⟨a, c, rfl⟩ := fis_shape hv
 clear hv x0
 go_enter Tryz.func48, Tryz.ntmps48
 go_wp2_with fail
 refine C.out.mono ?_
 rintro e w1 ⟨rfl, hb⟩
 clear C
 go_wp2_with fail
 go_ret
 exact ⟨rfl, below_step hb0 hb⟩
end Go.Proofs.YtfcaokpadodijaaGreat
