/- The reference's PointsOf. -/
import Derived.Test.YtfakhapljjbbnaaDoorSrc
import Derived.Test.YtfakhapljjbbnaaDoorSsu
import Derived.Laws.ResultCell
namespace Go.Proofs.YtfakhapljjbbnaaDoor
open Go.RowKit

theorem worthR_small {ks : List ByteArray} {ts : List TD} {r : RD} (hF : FitR ts r) (hS : SortedK (ts.map TD.name)) (hk : 1 ≤ r.kind ∧ r.kind ≤ 4) : -100000000000 ≤ worthR ks ts r ∧ worthR ks ts r ≤ 100000000000 := by
  cases ha : appB ks r
  · unfold worthR; rw [ha]; simp
  · have h := worth_fit (ks := ks) hF hS hk ha
    rw [h.1]; exact h.2
set_option maxRecDepth 100000 in
set_option maxHeartbeats 8000000 in
theorem pointsOf_calls (lo lo' lo3 : Nat) (v kv x : Value) (rs : List RD) (ks : List ByteArray) (l : LD) (w : World) (hR : Rls w lo v rs) (hn : rs.length ≤ 100) (hF : ∀ r ∈ rs, FitR l.stats r) (hK : Strs w lo' kv ks) (hT : Tds w lo3 x l.stats) (hS : SortedK (l.stats.map TD.name)) (hk : ∀ r ∈ rs, 1 ≤ r.kind ∧ r.kind ≤ 4) :
    Calls Tryd.prog 14 #[v, kv, lnV l x] w fun e w' => e = .returned (frV (lowF (ptsI rs ks l.stats) 100)) ∧ Below w.heap.size w w' := by
  obtain ⟨ra, rc, rfl⟩ := rls_shape hR
  obtain ⟨ka, kc, rfl⟩ := strs_shape hK
  obtain ⟨ta, tc, rfl⟩ := tds_shape hT
  obtain ⟨W, hW⟩ : ∃ W, W = (w.alloc (.cells #[.string l.player, .int .i64 l.week, .slice ta l.stats.length tc] 32)).alloc (.cells #[.int .i64 0, .int .i64 0] 36) := ⟨_, rfl⟩
  have hwW : Below w.heap.size w W := by rw [hW]; exact (below_alloc w _).trans ((below_alloc _ _).mono (by simp))
  have hy : W.heap[w.heap.size]? = some (.cells #[.string l.player, .int .i64 l.week, .slice ta l.stats.length tc] 32 (0, 0)) := by rw [hW]; exact heap_al (heap_alloc_new w _) _
  have hf : W.heap[w.heap.size + 1]? = some (.cells #[.int .i64 0, .int .i64 0] 36 (0, 0)) := by
    rw [hW]; have := heap_alloc_new (w.alloc (.cells #[.string l.player, .int .i64 l.week, .slice ta l.stats.length tc] 32)) (.cells #[.int .i64 0, .int .i64 0] 36); rwa [World.size_alloc] at this
  have Hat := Lib.hid (rls_at (hR.below hwW))
  have HC := Lib.hid (fun (r : RD) (hm : r ∈ rs) w' (hb : Below W.heap.size W w') => worthOf_calls lo3 lo' r l (.slice ta l.stats.length tc) (.slice ka ks.length kc) ks w' (hK.below (below_step hwW hb)) (hT.below (below_step hwW hb)) (hF r hm) hS (hk r hm))
  have HB := Lib.hid (fun (r : RD) (hm : r ∈ rs) => worthR_small (ks := ks) (hF r hm) hS (hk r hm))
  have Hsm := Lib.hid (fun k => sum_small (worthR ks l.stats) (B := 100000000000) (by omega) (l := rs.take k) (fun r hm => HB.out r (List.mem_of_mem_take hm)))
  have HP := Lib.hid (pts_eq (ks := ks) hS hk)
  have HwW := Lib.hid hwW
  have Hf := Lib.hid hf
  have y0 := cell_at hy 0 rfl
  have y1 := cell_at hy 1 rfl
  have y2 := cell_at hy 2 rfl
  have HS := Lib.hid (show ∀ w', Below W.heap.size W w' → w'.cell? ⟨w.heap.size, 0, none⟩ = some (.string l.player) ∧ w'.cell? ⟨w.heap.size, 1, none⟩ = some (.int .i64 l.week) ∧ w'.cell? ⟨w.heap.size, 2, none⟩ = some (.slice ta l.stats.length tc) from fun w' hb => ⟨below_cell hb y0, below_cell hb y1, below_cell hb y2⟩)
  clear hR hF hK hT hS hk hf hwW hy y0 y1 y2
  unfold lnV rlV at *
  generalize ptsI rs ks l.stats = A0 at HP ⊢
  obtain ⟨R, hR0⟩ : ∃ R, R = lowF A0 100 := ⟨_, rfl⟩
  have HR0 := Lib.hid hR0
  rw [← hR0]
  clear hR0
  go_enter Tryd.func14, Tryd.ntmps14
  go_upto_region 1 with fail
  rw [← hW]
  clear hW
  have hb0 := Below.refl W.heap.size W
  go_wp2_with fail
  go_loopw [7, 12] (fun s i wr => ∃ k : Nat, k ≤ rs.length ∧ i = .int .i64 k ∧ s = .int .i64 (sumI ((rs.take k).map (worthR ks l.stats))) ∧ Below W.heap.size W wr) (fun _ i _ => rs.length - (intOf i).toNat)
  case atStart => exact ⟨0, Nat.zero_le _, rfl, rfl, hb0⟩
  case round =>
    clear hb0
    obtain ⟨k, hk, rfl, rfl, hb⟩ := hrel
    have hsk := Hsm.out k
    rw [List.length_take] at hsk
    by_cases hlt : k < rs.length
    · obtain ⟨r, hr⟩ : ∃ r, rs[k]? = some r := ⟨rs[k], List.getElem?_eq_getElem hlt⟩
      have Hst := Lib.hid (sum_take (worthR ks l.stats) hr)
      have hm := List.mem_of_getElem? hr
      have hw1 := HB.out r hm
      rcases Hat.out with ⟨_, h⟩ | ⟨g, off, cap, e, _, hg, _, hcell⟩
      · rw [h] at hlt; simp at hlt
      simp only [Value.slice.injEq] at e
      obtain ⟨rfl, -, rfl⟩ := e
      obtain ⟨q0, q1, q2, q3, q4, q5, q6⟩ := hcell k r hr
      have p0 := below_cell hb q0
      have p1 := below_cell hb q1
      have p2 := below_cell hb q2
      have p3 := below_cell hb q3
      have p4 := below_cell hb q4
      have p5 := below_cell hb q5
      have p6 := below_cell hb q6
      have HCr := Lib.hid (fun w' hb => HC.out r hm w' hb)
      clear hr hm hcell q0 q1 q2 q3 q4 q5 q6
      generalize hA : sumI ((rs.take k).map (worthR ks l.stats)) = A at hsk Hst
      clear hA
      generalize hQ : worthR ks l.stats r = Q at hw1 HCr Hst
      clear hQ
      have hwr : IntKind.i64.wrap (A + Q) = A + Q := IntWalk.i64_in _ (by omega)
      go_upto_region 5 with fail
      obtain ⟨wA, hwA⟩ : ∃ wA, wA = wr.alloc (.cells #[.string r.key, .string r.stat, .string r.pos, .int .i64 r.kind, .int .i64 r.many, .int .i64 r.num, .int .i64 r.den] 57) := ⟨_, rfl⟩
      obtain ⟨X, hX⟩ : ∃ X, X = wr.heap.size := ⟨_, rfl⟩
      have hbA : Below W.heap.size W wA := by rw [hwA]; exact below_step hb (below_alloc wr _)
      have hx : wA.heap[X]? = some (.cells #[.string r.key, .string r.stat, .string r.pos, .int .i64 r.kind, .int .i64 r.many, .int .i64 r.num, .int .i64 r.den] 57 (0, 0)) := by rw [hwA, hX]; exact heap_alloc_new wr _
      rw [← hwA, ← hX]
      have x0 := cell_at hx 0 rfl
      have x1 := cell_at hx 1 rfl
      have x2 := cell_at hx 2 rfl
      have x3 := cell_at hx 3 rfl
      have x4 := cell_at hx 4 rfl
      have x5 := cell_at hx 5 rfl
      have x6 := cell_at hx 6 rfl
      obtain ⟨y0, y1, y2⟩ := HS.out wA hbA
      have HbA := Lib.hid hbA
      clear hwA hX hbA hx hb p0 p1 p2 p3 p4 p5 p6
      go_wp2_with fail
      refine (HCr.out _ HbA.out).mono ?_
      rintro e w' ⟨rfl, hb'⟩
      have Hb2 := Lib.hid (below_step HbA.out hb')
      clear hb' x0 x1 x2 x3 x4 x5 x6 y0 y1 y2
      go_wp2_with fail
      go_roundw
      case rel => exact ⟨k + 1, by omega, by go_num, by rw [Hst.out], Hb2.out⟩
      case measure => simp [intOf]; omega
    · obtain rfl : k = rs.length := by omega
      rw [List.take_length] at hsk ⊢
      rw [HP.out] at hsk ⊢
      go_wp2_with fail
      refine (ofHundredthsR_calls _ _ (by unfold Int64; omega)).mono ?_
      rintro e w3 ⟨rfl, hb3⟩
      have hb03 := below_step hb hb3
      have hf3 := cells_later Hf.out hb03
      have f0 := free_of hf3 0
      have f1 := free_of hf3 1
      have g0 := cell_at hf3 0 rfl
      have g1 := cell_at hf3 1 rfl
      have Hb3 := Lib.hid (below_step HwW.out hb03)
      clear hb3 hb03 hf3 hb
      rw [← HR0.out]
      rw [show frV R = .agg #[.int .i64 R.1, .int .i64 R.2] from rfl]
      obtain ⟨r1, r2⟩ := R
      dsimp only
      go_wp2_with fail
      try simp only [Exit.inBlock, Exit.then]
      refine bodyPost_ret (v := .agg #[.int .i64 r1, .int .i64 r2]) ?_ rfl ⟨rfl, (Hb3.out.setCell (p := ⟨w.heap.size + 1, 0, none⟩) (by simp) _).setCell (p := ⟨w.heap.size + 1, 1, none⟩) (by simp) _⟩
      rw [results_cell1 rfl]
      go_simp
end Go.Proofs.YtfakhapljjbbnaaDoor
