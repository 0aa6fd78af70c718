/- Fractions on the reference's side. -/
import Derived.Test.YtmejjkicagkogaaGreatDoorFra
import Derived.Test.YtmejjkicagkogaaGreatDoorRefb
namespace Go.Proofs.YtmejjkicagkogaaGreatDoor
open Go.RowKit

theorem gcdI_step' (a b : Int) : gcdI b (a.tmod b) = gcdI a b := by rw [gcdI_comm, gcdI_step, gcdI_comm]
set_option maxRecDepth 100000 in
set_option maxHeartbeats 1000000 in
theorem divisorR_calls (n d : Int) (w : World) (hn : Int64 n) (ha : Int64 d) (h0 : 0 < d) :
    Calls Tryz.prog 62 #[.int .i64 n, .int .i64 d] w fun e w' => e = .returned (.int .i64 (gcdI n d)) ∧ Below w.heap.size w w' := by
  have HG := Lib.hid (gcdI_le (a := n) h0)
  have hG := Lib.hid (⟨gcdI n d, rfl⟩ : ∃ G, G = gcdI n d)
  obtain ⟨G, hG⟩ := hG.out
  rw [← hG] at HG ⊢
  have H1 := Lib.hid hG
  have Hn := Lib.hid hn
  have Ha := Lib.hid ha
  clear hG hn ha h0
  go_enter Tryz.func62, Tryz.ntmps62
  go_wp2_with fail
  go_loopw [0, 1] (fun t s wr => ∃ a b : Int, t = .int .i64 a ∧ s = .int .i64 b ∧ Hid (Int64 a ∧ Int64 b ∧ gcdI a b = G) ∧ Below w.heap.size w wr) (fun _ s _ => (intOf s).natAbs)
  case atStart => exact ⟨n, d, rfl, rfl, Lib.hid ⟨Hn.out, Ha.out, H1.out.symm⟩, Below.refl _ _⟩
  case round =>
    obtain ⟨a, b, rfl, rfl, H, hb⟩ := hrel
    by_cases hz : b = 0
    · subst hz
      have hb' : (a.natAbs : Int) = G := by rw [← H.out.2.2, gcdI_comm, gcdI_zero]
      have hr := Ha.out
      have hG := HG.out
      unfold Int64 at hr
      have hm : max a (-a) = G := by omega
      have Hm := Lib.hid hm
      clear hm
      go_wp2_with fail
      go_ret
      exact ⟨ret_int Hm.out, hb⟩
    · have hne : (b != 0) = true := by simp [hz]
      have hr := tmod_64 (b := a) hz H.out.2.1
      have Hs := Lib.hid (tmod_small b a hz)
      unfold Int64 at hr
      obtain ⟨hr1, hr2⟩ := hr
      have Hz := Lib.hid hz
      go_wp2_with fail
      go_region
      go_wp2_with fail
      go_roundw
      case rel => exact ⟨_, _, rfl, rfl, Lib.hid ⟨H.out.2.1, tmod_64 Hz.out H.out.2.1, (gcdI_step' a b).trans H.out.2.2⟩, hb.drew⟩
      case measure => simp only [intOf]; exact Hs.out

set_option maxRecDepth 100000 in
set_option maxHeartbeats 1000000 in
theorem lowest_calls (n d : Int) (w : World) (hn : Int64 n) (hd : Int64 d) (h0 : 0 < d) :
    Calls Tryz.prog 76 #[.int .i64 n, .int .i64 d] w fun e w' => e = .returned (frV (lowF n d)) ∧ Below w.heap.size w w' := by
  have hG := gcdI_pos (a := n) h0
  have hg1 := tdiv_64 hn hG
  have hg2 := tdiv_64 hd hG
  have H := Lib.hid (show frV (lowF n d) = .agg #[.int .i64 (n.tdiv (gcdI n d)), .int .i64 (d.tdiv (gcdI n d))] from rfl)
  have C := fun w => Lib.hid (divisorR_calls n d w hn hd h0)
  generalize gcdI n d = G at hG hg1 hg2 H C
  generalize lowF n d = L at H ⊢
  unfold Int64 at *
  have hne : G ≠ 0 := by omega
  have hb0 := below_alloc w (.cells #[.int .i64 0, .int .i64 0] 38)
  go_enter Tryz.func76, Tryz.ntmps76
  go_wp2_with fail
  refine (C _).out.mono ?_
  rintro e w' ⟨rfl, hb⟩
  have hx := cells_later (heap_alloc_new w _) hb
  have z0 := cell_at hx 0 rfl
  have z1 := cell_at hx 1 rfl
  have f0 := free_of hx 0
  have f1 := free_of hx 1
  have Hb := Lib.hid (below_step hb0 hb)
  clear hx hb hb0 C
  go_wp2_with fail
  go_region
  go_wp2_with fail
  try simp only [Exit.inBlock, Exit.then]
  refine bodyPost_ret (v := .agg #[.int .i64 (n.tdiv G), .int .i64 (d.tdiv G)]) ?_ rfl ⟨ret_val H.out.symm, ((Hb.out.drew).setCell (p := ⟨w.heap.size, 0, none⟩) (Nat.le_refl _) _).setCell (p := ⟨w.heap.size, 1, none⟩) (Nat.le_refl _) _⟩
  rw [results_cell1 rfl]
  go_simp
set_option maxHeartbeats 400000 in
theorem ofHundredthsR_calls (n : Int) (w : World) (hn : Int64 n) :
    Calls Tryz.prog 45 #[.int .i64 n] w fun e w' => e = .returned (frV (lowF n 100)) ∧ Below w.heap.size w w' := by
  have hb0 := below_alloc w (.cells #[.int .i64 0, .int .i64 0] 38)
  go_enter Tryz.func45, Tryz.ntmps45
  go_wp2_with fail
  refine (lowest_calls n 100 _ hn (by unfold Int64; omega) (by omega)).mono ?_
  rintro e w' ⟨rfl, hb⟩
  rw [show frV (lowF n 100) = .agg #[.int .i64 (lowF n 100).1, .int .i64 (lowF n 100).2] from rfl]
  have hx := cells_later (heap_alloc_new w _) hb
  have z0 := cell_at hx 0 rfl
  have z1 := cell_at hx 1 rfl
  have f0 := free_of hx 0
  have f1 := free_of hx 1
  have Hb := Lib.hid (below_step hb0 hb)
  clear hx hb hb0
  obtain ⟨L, hL⟩ : ∃ L, L = lowF n 100 := ⟨_, rfl⟩
  have HL := Lib.hid (show Ending.returned (.agg #[.int .i64 L.1, .int .i64 L.2]) = Ending.returned (frV (lowF n 100)) by rw [hL]; rfl)
  rw [← hL]
  clear hL
  go_wp2_with fail
  try simp only [Exit.inBlock, Exit.then]
  refine bodyPost_ret (v := .agg #[.int .i64 L.1, .int .i64 L.2]) ?_ rfl ⟨HL.out, (Hb.out.setCell (p := ⟨w.heap.size, 0, none⟩) (Nat.le_refl _) _).setCell (p := ⟨w.heap.size, 1, none⟩) (Nat.le_refl _) _⟩
  rw [results_cell1 rfl]
  go_simp
set_option maxRecDepth 100000 in
set_option maxHeartbeats 1000000 in
theorem pointsFault_calls (n d : Int) (w : World) (hn : Int64 n) (hd : Int64 d) :
    Calls Tryz.prog 30 #[frV (n, d), .int .i64 10000] w fun e w' => e = .returned (.int .i64 (wrongF n d 10000)) ∧ Below w.heap.size w w' := by
  have hb := below_alloc w (.cells #[.int .i64 n, .int .i64 d] 38)
  unfold frV
  by_cases h0 : d < 1
  · have HW := Lib.hid (show wrongF n d 10000 = 3 by unfold wrongF; rw [if_pos (Or.inl (by omega))])
    go_enter Tryz.func30, Tryz.ntmps30
    go_wp2_with fail
    go_ret
    exact ⟨ret_int HW.out.symm, hb⟩
  · have C := fun w => Lib.hid (divisorR_calls n d w hn hd (by omega))
    have Hd := Lib.hid hd
    have HS := fun (w' : World) (h : Below (w.alloc (.cells #[.int .i64 n, .int .i64 d] 38)).heap.size (w.alloc (.cells #[.int .i64 n, .int .i64 d] 38)) w') => Lib.hid (show w'.cell? ⟨w.heap.size, 0, none⟩ = some (.int .i64 n) ∧ w'.cell? ⟨w.heap.size, 1, none⟩ = some (.int .i64 d) ∧ Below w.heap.size w w' from ⟨cell_at (cells_later (heap_alloc_new w _) h) 0 rfl, cell_at (cells_later (heap_alloc_new w _) h) 1 rfl, below_step hb h⟩)
    have Hb := Lib.hid hb
    clear hb hd
    by_cases h1 : gcdI n d = 1
    · rw [h1] at C
      have H1 := Lib.hid h1
      clear h1
      by_cases h2 : (100 : Int) % d = 0
      · have h3 := den_100 h2
        by_cases h4 : n < -10000 * d
        · have HW := Lib.hid (show wrongF n d 10000 = 1 by have h1 := H1.out; unfold wrongF; rw [if_neg (by omega), if_pos (by omega)])
          clear hn
          go_enter Tryz.func30, Tryz.ntmps30
          go_wp2_with fail
          refine (C _).out.mono ?_
          rintro e w' ⟨rfl, hb⟩
          obtain ⟨z0, z1, hb⟩ := (HS w' hb).out
          go_wp2_with fail
          go_ret
          exact ⟨ret_int HW.out.symm, hb⟩
        · by_cases h5 : n > 10000 * d
          · have HW := Lib.hid (show wrongF n d 10000 = 1 by have h1 := H1.out; unfold wrongF; rw [if_neg (by omega), if_pos (by omega)])
            clear hn
            go_enter Tryz.func30, Tryz.ntmps30
            go_wp2_with fail
            refine (C _).out.mono ?_
            rintro e w' ⟨rfl, hb⟩
            obtain ⟨z0, z1, hb⟩ := (HS w' hb).out
            go_wp2_with fail
            go_ret
            exact ⟨ret_int HW.out.symm, hb⟩
          · have HW := Lib.hid (show wrongF n d 10000 = 0 by have h1 := H1.out; unfold wrongF; rw [if_neg (by omega), if_neg (by omega)])
            clear hn
            go_enter Tryz.func30, Tryz.ntmps30
            go_wp2_with fail
            refine (C _).out.mono ?_
            rintro e w' ⟨rfl, hb⟩
            obtain ⟨z0, z1, hb⟩ := (HS w' hb).out
            go_wp2_with fail
            go_ret
            exact ⟨ret_int HW.out.symm, hb⟩
      · have HW := Lib.hid (show wrongF n d 10000 = 1 by have h1 := H1.out; unfold wrongF; rw [if_neg (by omega), if_pos (by omega)])
        have h5 : ((100 : Int) % d != 0) = true := by simpa using h2
        have hr1 := Int.emod_nonneg 100 (show d ≠ 0 by omega)
        have hr2 := Int.emod_lt_of_pos 100 (show 0 < d by omega)
        have h6 : d ≠ 0 := by omega
        have hd2 : d ≤ 9223372036854775807 := Hd.out.2
        clear h2 hn
        go_enter Tryz.func30, Tryz.ntmps30
        go_wp2_with fail
        refine (C _).out.mono ?_
        rintro e w' ⟨rfl, hb⟩
        obtain ⟨z0, z1, hb⟩ := (HS w' hb).out
        go_wp2_with fail
        go_ret
        exact ⟨ret_int HW.out.symm, hb⟩
    · have HW := Lib.hid (show wrongF n d 10000 = 3 by unfold wrongF; rw [if_pos (Or.inr h1)])
      have h5 : (gcdI n d != 1) = true := by simpa using h1
      clear h1 hn
      generalize gcdI n d = G at C h5
      go_enter Tryz.func30, Tryz.ntmps30
      go_wp2_with fail
      refine (C _).out.mono ?_
      rintro e w' ⟨rfl, hb⟩
      obtain ⟨z0, z1, hb⟩ := (HS w' hb).out
      go_wp2_with fail
      go_ret
      exact ⟨ret_int HW.out.symm, hb⟩
end Go.Proofs.YtmejjkicagkogaaGreatDoor
