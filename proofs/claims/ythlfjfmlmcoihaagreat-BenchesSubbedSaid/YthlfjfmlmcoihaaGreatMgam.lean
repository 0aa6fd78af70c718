/- Fractions: the greatest common divisor, lowest terms, hundredths, on both sides. -/
import Derived.Test.YthlfjfmlmcoihaaGreatMgal
import Derived.Laws.ResultCell
import Derived.OwnWalk
namespace Go.Proofs.YthlfjfmlmcoihaaGreat
open Go.RowKit

/-- The greatest common divisor. -/
def gcdI (a b : Int) : Int := (Nat.gcd a.natAbs b.natAbs : Nat)
theorem gcdI_pos {a b : Int} (h : 0 < b) : 0 < gcdI a b := by
  unfold gcdI
  have : 0 < Nat.gcd a.natAbs b.natAbs := Nat.gcd_pos_of_pos_right _ (by omega)
  omega
theorem gcdI_le {a b : Int} (h : 0 < b) : gcdI a b ≤ b := by
  unfold gcdI
  have := Nat.gcd_le_right (n := b.natAbs) a.natAbs (by omega)
  omega
theorem gcdI_comm (a b : Int) : gcdI a b = gcdI b a := by unfold gcdI; rw [Nat.gcd_comm]
theorem gcdI_step (a b : Int) : gcdI (b.tmod a) a = gcdI a b := by
  unfold gcdI
  rw [Int.natAbs_tmod, ← Nat.gcd_rec]
theorem gcdI_zero (b : Int) : gcdI 0 b = (b.natAbs : Int) := by unfold gcdI; simp
def Int64 (x : Int) : Prop := -9223372036854775808 ≤ x ∧ x ≤ 9223372036854775807
theorem tmod_small (a b : Int) (ha : a ≠ 0) : (b.tmod a).natAbs < a.natAbs := by
  rw [Int.natAbs_tmod]
  exact Nat.mod_lt _ (by omega)
theorem tmod_64 {a b : Int} (ha : a ≠ 0) (h : Int64 a) : Int64 (b.tmod a) := by
  have := tmod_small a b ha
  unfold Int64 at *
  omega

set_option maxRecDepth 100000 in
set_option maxHeartbeats 1000000 in
theorem divisor_calls (n above : Int) (w : World) (hn : Int64 n) (ha : Int64 above) (h0 : 0 < above) :
    Calls Tryz.prog 126 #[.int .i64 n, .int .i64 above] w fun e w' => e = .returned (.int .i64 (gcdI n above)) ∧ w = w' := by
  have HG := Lib.hid (gcdI_le (a := n) h0)
  have hG := Lib.hid (⟨gcdI n above, rfl⟩ : ∃ G, G = gcdI n above)
  obtain ⟨G, hG⟩ := hG.out
  rw [← hG] at HG ⊢
  have H1 := Lib.hid hG
  have Hn := Lib.hid hn
  have Ha := Lib.hid ha
  clear hG hn ha h0
  go_enter Tryz.func126, Tryz.ntmps126
  go_wp2_with fail
  go_loop [0, 1] (fun t s => ∃ a b : Int, t = .int .i64 a ∧ s = .int .i64 b ∧ Hid (Int64 a ∧ Int64 b ∧ gcdI a b = G)) (fun t _ => (intOf t).natAbs)
  case atStart => exact ⟨n, above, rfl, rfl, Lib.hid ⟨Hn.out, Ha.out, H1.out.symm⟩⟩
  case round =>
    obtain ⟨a, b, rfl, rfl, H⟩ := hrel
    by_cases hz : a = 0
    · subst hz
      have hb : (b.natAbs : Int) = G := by rw [← H.out.2.2, gcdI_zero]
      have hr := Ha.out
      have hG := HG.out
      unfold Int64 at hr
      have hm : max b (-b) = G := by omega
      have Hm := Lib.hid hm
      clear hm
      go_wp2_with fail
      go_ret
      exact ⟨ret_int Hm.out, rfl⟩
    · have hne : (a != 0) = true := by simp [hz]
      have hr := tmod_64 (b := b) hz H.out.1
      have Hs := Lib.hid (tmod_small a b hz)
      unfold Int64 at hr
      obtain ⟨hr1, hr2⟩ := hr
      have Hz := Lib.hid hz
      clear hz
      go_wp2_with fail
      go_round
      case rel => exact ⟨_, _, rfl, rfl, Lib.hid ⟨tmod_64 Hz.out H.out.1, H.out.1, (gcdI_step a b).trans H.out.2.2⟩⟩
      case measure => simp only [intOf]; exact Hs.out

theorem results_cell1 {fn : Func} {p : Tmp} {ty : TypeId} (h : fn.results = #[.cell p ty]) (tmps : Array Value) (P : Program) (w : World) :
    (results fn tmps).run P w = ((asAddr (tmps.getD p undef)).run P w).andThen fun a w₁ => (loadVar ty a).run P w₁ := by
  simp only [results, h]
  simp [Sem.run_bind, Result.andThen]
theorem cells_later {w w' : World} {T g : Nat} {cur : Array Value} (h : w.heap[g]? = some (.cells cur T (0, 0))) (hb : Below w.heap.size w w') : w'.heap[g]? = some (.cells cur T (0, 0)) := (hb.block _ (lt_of_heap h)).trans h
theorem free_of {w : World} {T g : Nat} {cur : Array Value} (h : w.heap[g]? = some (.cells cur T (0, 0))) (o : Nat) : w.frozen? ⟨g, o, none⟩ = false := by simp [World.frozen?, h]
theorem cell_at {w : World} {T g : Nat} {cur : Array Value} {u : Value} (h : w.heap[g]? = some (.cells cur T (0, 0))) (o : Nat) (hu : cur[o]? = some u) : w.cell? ⟨g, o, none⟩ = some u := by rw [cell_of_row w g o cur T (0, 0) h, hu]
/-- A fraction's value. -/
def frV (f : Int × Int) : Value := .agg #[.int .i64 f.1, .int .i64 f.2]
def lowF (n d : Int) : Int × Int := (n.tdiv (gcdI n d), d.tdiv (gcdI n d))
theorem tdiv_64 {n g : Int} (hn : Int64 n) (hg : 0 < g) : Int64 (n.tdiv g) := by
  have h := Int.natAbs_tdiv n g
  have h1 : n.natAbs / g.natAbs ≤ n.natAbs := Nat.div_le_self _ _
  have h2 : (n.tdiv g).natAbs ≤ n.natAbs := by rw [h]; exact h1
  have h3 : 0 ≤ n → 0 ≤ n.tdiv g := fun h => Int.tdiv_nonneg h (by omega)
  have h4 : n ≤ 0 → n.tdiv g ≤ 0 := fun h => by
    have := Int.tdiv_nonneg (show 0 ≤ -n by omega) (show 0 ≤ g by omega)
    rw [Int.neg_tdiv] at this
    omega
  clear h h1
  unfold Int64 at *
  omega

set_option maxRecDepth 100000 in
set_option maxHeartbeats 1000000 in
theorem of_calls (n d : Int) (w : World) (hn : Int64 n) (hd : Int64 d) (h0 : 0 < d) :
    Calls Tryz.prog 106 #[.int .i64 n, .int .i64 d] w fun e w' => e = .returned (frV (lowF n d)) ∧ Below w.heap.size w w' := by
  have hG := gcdI_pos (a := n) h0
  have hg1 := tdiv_64 hn hG
  have hg2 := tdiv_64 hd hG
  have H := Lib.hid (show frV (lowF n d) = .agg #[.int .i64 (n.tdiv (gcdI n d)), .int .i64 (d.tdiv (gcdI n d))] from rfl)
  have C := fun w => Lib.hid (divisor_calls n d w hn hd h0)
  generalize gcdI n d = G at *
  generalize lowF n d = L at *
  unfold Int64 at *
  have hne : G ≠ 0 := by omega
  go_enter Tryz.func106, Tryz.ntmps106
  go_wp2_with fail
  refine (C _).out.mono ?_
  rintro e w' ⟨rfl, rfl⟩
  go_wp2_with fail
  go_region
  go_wp2_with fail
  try simp only [Exit.inBlock, Exit.then]
  refine bodyPost_ret (v := .agg #[.int .i64 (n.tdiv G), .int .i64 (d.tdiv G)]) ?_ rfl ⟨ret_val H.out.symm, ((Below.refl w.heap.size w).alloc (Nat.le_refl _) _).drew⟩
  rw [results_cell1 rfl]
  go_simp
set_option maxHeartbeats 400000 in
theorem ofHundredths_calls (n : Int) (w : World) (hn : Int64 n) :
    Calls Tryz.prog 57 #[.int .i64 n] w fun e w' => e = .returned (frV (lowF n 100)) ∧ Below w.heap.size w w' := by
  have hb0 := below_alloc w (.cells #[.int .i64 0, .int .i64 0] 34)
  go_enter Tryz.func57, Tryz.ntmps57
  go_wp2_with fail
  refine (of_calls n 100 _ hn (by unfold Int64; omega) (by omega)).mono ?_
  rintro e w' ⟨rfl, hb⟩
  rw [show frV (lowF n 100) = .agg #[.int .i64 (lowF n 100).1, .int .i64 (lowF n 100).2] from rfl]
  have hx := cells_later (heap_alloc_new w _) hb
  have z0 := cell_at hx 0 rfl
  have z1 := cell_at hx 1 rfl
  have f0 := free_of hx 0
  have f1 := free_of hx 1
  have Hb := Lib.hid (below_step hb0 hb)
  clear hx hb hb0
  obtain ⟨L, hL⟩ : ∃ L, L = lowF n 100 := ⟨_, rfl⟩
  have HL := Lib.hid (show Ending.returned (.agg #[.int .i64 L.1, .int .i64 L.2]) = Ending.returned (frV (lowF n 100)) by rw [hL]; rfl)
  rw [← hL]
  clear hL
  go_wp2_with fail
  try simp only [Exit.inBlock, Exit.then]
  refine bodyPost_ret (v := .agg #[.int .i64 L.1, .int .i64 L.2]) ?_ rfl ⟨HL.out, (Hb.out.setCell (p := ⟨w.heap.size, 0, none⟩) (Nat.le_refl _) _).setCell (p := ⟨w.heap.size, 1, none⟩) (Nat.le_refl _) _⟩
  rw [results_cell1 rfl]
  go_simp
set_option maxHeartbeats 400000 in
theorem hundredths_calls (n d : Int) (w : World) (hd : 0 < d) (h1 : Int64 (n * ((100 : Int).tdiv d))) (h2 : d ≤ 100):
    Calls Tryz.prog 107 #[frV (n, d)] w fun e w' => e = .returned (.int .i64 (n * ((100 : Int).tdiv d))) ∧ Below w.heap.size w w' := by
  unfold frV Int64 at *
  have hd0 : d ≠ 0 := by omega
  have h3 := tdiv_64 (show Int64 100 by unfold Int64; omega) hd
  unfold Int64 at h3
  go_enter Tryz.func107, Tryz.ntmps107
  go_wp2_with fail
  go_quiet (fail)
  go_wp2_with fail
  go_ret
  exact ⟨rfl, below_drewN (below_alloc w _) nq⟩

/-- What is wrong with points. -/
def wrongF (n d most : Int) : Int := if d ≤ 0 ∨ gcdI n d ≠ 1 then 3 else if (100 : Int) % d ≠ 0 ∨ ¬ (-most * d ≤ n ∧ n ≤ most * d) then 1 else 0
theorem den_100 {d : Int} (h : (100 : Int) % d = 0) : d ≤ 100 := Int.le_of_dvd (by omega) (Int.dvd_of_emod_eq_zero h)
set_option maxRecDepth 100000 in
set_option maxHeartbeats 1000000 in
theorem wrong_calls (n d : Int) (w : World) (hn : Int64 n) (hd : Int64 d) :
    Calls Tryz.prog 81 #[frV (n, d), .int .i64 10000] w fun e w' => e = .returned (.int .i64 (wrongF n d 10000)) ∧ Below w.heap.size w w' := by
  have hb := below_alloc w (.cells #[.int .i64 n, .int .i64 d] 34)
  unfold frV
  by_cases h0 : d ≤ 0
  · have HW := Lib.hid (show wrongF n d 10000 = 3 by unfold wrongF; rw [if_pos (Or.inl h0)])
    go_enter Tryz.func81, Tryz.ntmps81
    go_wp2_with fail
    go_ret
    exact ⟨ret_int HW.out.symm, hb⟩
  · have C := fun w => Lib.hid (divisor_calls n d w hn hd (by omega))
    by_cases h1 : gcdI n d = 1
    · by_cases h2 : (100 : Int) % d = 0
      · have h3 := den_100 h2
        by_cases h4 : -10000 * d ≤ n ∧ n ≤ 10000 * d
        · have HW := Lib.hid (show wrongF n d 10000 = 0 by unfold wrongF; rw [if_neg (by omega), if_neg (by omega)])
          have H4 := Lib.hid (show betwB n (-10000 * d) (10000 * d) = true by unfold betwB; simp; omega)
          rw [h1] at C
          clear h4 hn hd h1
          go_enter Tryz.func81, Tryz.ntmps81
          go_wp2_with fail
          refine (C _).out.mono ?_
          rintro e w' ⟨rfl, rfl⟩
          go_wp2_with fail
          refine (between_calls n (-10000 * d) (10000 * d) _).mono ?_
          rintro e w' ⟨rfl, rfl⟩
          rw [H4.out]
          go_wp2_with fail
          go_ret
          exact ⟨ret_int HW.out.symm, hb⟩
        · have HW := Lib.hid (show wrongF n d 10000 = 1 by unfold wrongF; rw [if_neg (by omega), if_pos (by omega)])
          have H4 := Lib.hid (show betwB n (-10000 * d) (10000 * d) = false by unfold betwB; simp; omega)
          rw [h1] at C
          clear h4 hn hd h1
          go_enter Tryz.func81, Tryz.ntmps81
          go_wp2_with fail
          refine (C _).out.mono ?_
          rintro e w' ⟨rfl, rfl⟩
          go_wp2_with fail
          refine (between_calls n (-10000 * d) (10000 * d) _).mono ?_
          rintro e w' ⟨rfl, rfl⟩
          rw [H4.out]
          go_wp2_with fail
          go_ret
          exact ⟨ret_int HW.out.symm, hb⟩
      · have HW := Lib.hid (show wrongF n d 10000 = 1 by unfold wrongF; rw [if_neg (by omega), if_pos (by omega)])
        have h5 : ((100 : Int) % d != 0) = true := by simpa using h2
        have hr1 := Int.emod_nonneg 100 (show d ≠ 0 by omega)
        have hr2 := Int.emod_lt_of_pos 100 (show 0 < d by omega)
        have h6 : d ≠ 0 := by omega
        rw [h1] at C
        clear h2 hn hd h1
        go_enter Tryz.func81, Tryz.ntmps81
        go_wp2_with fail
        refine (C _).out.mono ?_
        rintro e w' ⟨rfl, rfl⟩
        go_wp2_with fail
        go_ret
        exact ⟨ret_int HW.out.symm, hb⟩
    · have HW := Lib.hid (show wrongF n d 10000 = 3 by unfold wrongF; rw [if_pos (Or.inr h1)])
      have h5 : (gcdI n d != 1) = true := by simpa using h1
      clear h1 hn hd
      generalize gcdI n d = G at C h5
      go_enter Tryz.func81, Tryz.ntmps81
      go_wp2_with fail
      refine (C _).out.mono ?_
      rintro e w' ⟨rfl, rfl⟩
      go_wp2_with fail
      go_ret
      exact ⟨ret_int HW.out.symm, hb⟩
end Go.Proofs.YthlfjfmlmcoihaaGreat
