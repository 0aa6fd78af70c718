/- What a rule gives, as the reference reckons. -/
import Derived.Test.YtfakhapljjbbnaaDoorSpg
import Derived.Test.YtfakhapljjbbnaaDoorRefc
import Derived.Test.YtfakhapljjbbnaaDoorSml
import Derived.Deep.CutRange
namespace Go.Proofs.YtfakhapljjbbnaaDoor
open Go.RowKit

theorem cntR_step {ts : List TD} {k : Nat} {t : TD} (h : ts[k]? = some t) (s : ByteArray) : cntR (ts.take (k + 1)) s = if beqS t.name s then t.count else cntR (ts.take k) s := by
  unfold cntR
  rw [List.take_add_one, h]
  simp
theorem worth_fit {ks : List ByteArray} {ts : List TD} {r : RD} (hF : FitR ts r) (hS : SortedK (ts.map TD.name)) (hk : 1 ≤ r.kind ∧ r.kind ≤ 4) (ha : appB ks r = true) :
    worthR ks ts r = timesR r.kind r.many (cntR ts r.stat) * (r.num * ((100 : Int).tdiv r.den)) ∧ -100000000000 ≤ timesR r.kind r.many (cntR ts r.stat) * (r.num * ((100 : Int).tdiv r.den)) ∧ timesR r.kind r.many (cntR ts r.stat) * (r.num * ((100 : Int).tdiv r.den)) ≤ 100000000000 := by
  have h := hF.giv
  unfold givenI at h
  rw [cnt_eq hS, times_eq hk, Int.mul_comm] at h
  exact ⟨by unfold worthR; rw [if_pos ha], h⟩
theorem strEq_of {a b : ByteArray} {v : Bool} (h : beqS a b = v) : (a.toList == b.toList) = v := h
set_option maxRecDepth 100000 in
set_option maxHeartbeats 8000000 in
theorem worthOf_calls (lo lo' : Nat) (r : RD) (l : LD) (x kv : Value) (ks : List ByteArray) (w : World) (hK : Strs w lo' kv ks) (hT : Tds w lo x l.stats) (hF : FitR l.stats r) (hS : SortedK (l.stats.map TD.name)) (hk : 1 ≤ r.kind ∧ r.kind ≤ 4) :
    Calls Tryd.prog 39 #[rlV r, kv, lnV l x] w (IntBelow (worthR ks l.stats r) w) := by
  obtain ⟨ka, kc, rfl⟩ := strs_shape hK
  obtain ⟨ta, tc, rfl⟩ := tds_shape hT
  obtain ⟨W, hW⟩ : ∃ W, W = (w.alloc (.cells #[.string r.key, .string r.stat, .string r.pos, .int .i64 r.kind, .int .i64 r.many, .int .i64 r.num, .int .i64 r.den] 57)).alloc (.cells #[.string l.player, .int .i64 l.week, .slice ta l.stats.length tc] 32) := ⟨_, rfl⟩
  have hwW : Below w.heap.size w W := by rw [hW]; exact (below_alloc w _).trans ((below_alloc _ _).mono (by simp))
  have hx : W.heap[w.heap.size]? = some (.cells #[.string r.key, .string r.stat, .string r.pos, .int .i64 r.kind, .int .i64 r.many, .int .i64 r.num, .int .i64 r.den] 57 (0, 0)) := by rw [hW]; exact heap_al (heap_alloc_new w _) _
  have hy : W.heap[w.heap.size + 1]? = some (.cells #[.string l.player, .int .i64 l.week, .slice ta l.stats.length tc] 32 (0, 0)) := by
    rw [hW]; have := heap_alloc_new (w.alloc (.cells #[.string r.key, .string r.stat, .string r.pos, .int .i64 r.kind, .int .i64 r.many, .int .i64 r.num, .int .i64 r.den] 57)) (.cells #[.string l.player, .int .i64 l.week, .slice ta l.stats.length tc] 32); rwa [World.size_alloc] at this
  have HC := Lib.hid (fun w' (hb : Below W.heap.size W w') => contains_calls lo' (.slice ka ks.length kc) ks r.pos w' (hK.below (below_step hwW hb)))
  have Hat := Lib.hid (tds_at (hT.below hwW))
  have Hx := Lib.hid hx
  have y2 := cell_at hy 2 rfl
  have x1 := cell_at hx 1 rfl
  have HwW := Lib.hid hwW
  have Hden := Lib.hid hF.den
  have HH := Lib.hid (fun w' => hundredthsR_calls r.num r.den w' hF.den (by have := hF.hun; unfold Int64; omega) hF.den2)
  have Hcnt := Lib.hid (show -100000 ≤ cntR l.stats r.stat ∧ cntR l.stats r.stat ≤ 100000 by rw [← cnt_eq hS]; exact hF.cnt)
  have Hmany := Lib.hid hF.many
  have Hfit := Lib.hid (fun ha => worth_fit (ks := ks) hF hS hk ha)
  have Hno := Lib.hid (fun (h : appB ks r = false) => (show worthR ks l.stats r = 0 by unfold worthR; rw [h]; rfl))
  have Hhun := Lib.hid hF.hun
  obtain ⟨hk1, hk2⟩ := hk
  clear hK hT hF hS hx hy hwW
  unfold rlV lnV
  generalize worthR ks l.stats r = E at Hfit Hno ⊢
  unfold frV at HH
  generalize r.num * ((100 : Int).tdiv r.den) = H at HH Hfit Hhun
  go_enter Tryd.func39, Tryd.ntmps39
  go_upto_region 1 with fail
  rw [← hW]
  clear hW
  have hb0 := Below.refl W.heap.size W
  go_wp2_with fail
  go_loopw [7, 14] (fun n i wr => ∃ k : Nat, k ≤ l.stats.length ∧ i = .int .i64 k ∧ n = .int .i64 (cntR (l.stats.take k) r.stat) ∧ Below W.heap.size W wr) (fun _ i _ => l.stats.length - (intOf i).toNat)
  case atStart => exact ⟨0, Nat.zero_le _, rfl, rfl, hb0⟩
  case round =>
    clear hb0
    obtain ⟨k, hk, rfl, rfl, hb⟩ := hrel
    by_cases hlt : k < l.stats.length
    · obtain ⟨t, ht⟩ : ∃ t, l.stats[k]? = some t := ⟨l.stats[k], List.getElem?_eq_getElem hlt⟩
      have Hst := Lib.hid (cntR_step ht r.stat)
      rcases Hat.out with ⟨_, h⟩ | ⟨g, off, cap, e, _, hg, _, hcell⟩
      · rw [h] at hlt; simp at hlt
      simp only [Value.slice.injEq] at e
      obtain ⟨rfl, -, rfl⟩ := e
      obtain ⟨q0, q1⟩ := hcell k t ht
      have p0 := below_cell hb q0
      have p1 := below_cell hb q1
      have z1 := below_cell hb x1
      have hbA := below_step hb (below_alloc wr (.cells #[.string t.name, .int .i64 t.count] 76))
      clear ht hcell q0 q1 x1 y2
      go_upto_region 5 with fail
      obtain ⟨wA, hwA⟩ : ∃ wA, wA = wr.alloc (.cells #[.string t.name, .int .i64 t.count] 76) := ⟨_, rfl⟩
      obtain ⟨X, hX⟩ : ∃ X, X = wr.heap.size := ⟨_, rfl⟩
      have hz : wA.heap[X]? = some (.cells #[.string t.name, .int .i64 t.count] 76 (0, 0)) := by rw [hwA, hX]; exact heap_alloc_new wr _
      have a1 : wA.cell? ⟨w.heap.size, 1, none⟩ = some (.string r.stat) := by rw [hwA]; exact below_cell (below_alloc wr _) z1
      rw [← hwA, ← hX]
      rw [← hwA] at hbA
      have a2 := cell_at hz 0 rfl
      have a3 := cell_at hz 1 rfl
      clear hwA hX hz z1 p0 p1 hb
      cases hq : beqS t.name r.stat
      · have Hn := Lib.hid (show cntR (l.stats.take k) r.stat = cntR (l.stats.take (k + 1)) r.stat by rw [Hst.out, hq]; rfl)
        have hq' := strEq_of hq
        clear hq
        generalize cntR (l.stats.take k) r.stat = q at Hn ⊢
        go_wp2_with fail
        go_roundw
        case rel => exact ⟨k + 1, by omega, by go_num, by rw [Hn.out], hbA⟩
        case measure => simp [intOf]; omega
      · have Hn := Lib.hid (show t.count = cntR (l.stats.take (k + 1)) r.stat by rw [Hst.out, hq]; rfl)
        have hq' := strEq_of hq
        clear hq
        generalize cntR (l.stats.take k) r.stat = q
        go_wp2_with fail
        go_roundw
        case rel => exact ⟨k + 1, by omega, by go_num, by rw [Hn.out], hbA⟩
        case measure => simp [intOf]; omega
    · obtain rfl : k = l.stats.length := by omega
      rw [List.take_length]
      clear y2 x1 Hat
      have hx' := cells_later Hx.out hb
      have z2 := cell_at hx' 2 rfl
      have z3 := cell_at hx' 3 rfl
      have z4 := cell_at hx' 4 rfl
      have z5 := cell_at hx' 5 rfl
      have z6 := cell_at hx' 6 rfl
      have Hbr := Lib.hid (below_step HwW.out hb)
      have HCr := Lib.hid (HC.out wr hb)
      have HE := Lib.hid (empty_of r.pos)
      clear hx' hb
      generalize cntR l.stats r.stat = n at Hcnt Hfit ⊢
      cases hA : appB ks r
      · have hp : r.pos.size ≠ 0 := by intro h; simp [appB, h] at hA
        have Hcn := Lib.hid (show cnS ks r.pos = false by simpa [appB, hp] using hA)
        have e3 : r.pos.toList.isEmpty = false := by rw [HE.out]; simp [hp]
        have HN := Lib.hid (Hno.out hA)
        clear hp hA
        go_wp2_with fail
        refine HCr.out.mono ?_
        rintro e w' ⟨rfl, rfl⟩
        rw [Hcn.out]
        go_wp2_with fail
        go_ret
        exact ⟨ret_int HN.out.symm, Hbr.out⟩
      · have HT := Lib.hid (Hfit.out hA)
        go_upto_region 9 with fail
        go_cut [26] from 27 to 36 (fun v wc => v = .bool false ∧ wr = wc)
        case first =>
          by_cases hp : r.pos.size = 0
          · have e3 : r.pos.toList.isEmpty = true := by rw [HE.out]; simp [hp]
            clear hp hA
            go_wp2_with fail
            go_meet
            case rel => exact ⟨rfl, rfl⟩
          · have Hcn := Lib.hid (show cnS ks r.pos = true by simpa [appB, hp] using hA)
            have e3 : r.pos.toList.isEmpty = false := by rw [HE.out]; simp [hp]
            clear hp hA
            go_wp2_with fail
            refine HCr.out.mono ?_
            rintro e w' ⟨rfl, rfl⟩
            rw [Hcn.out]
            go_wp2_with fail
            go_meet
            case rel => exact ⟨rfl, rfl⟩
        case rest =>
          obtain ⟨rfl, hwc⟩ := hcut
          subst hwc
          clear hA z2 HCr HE
          obtain ⟨n1, n2⟩ := Hcnt.out
          obtain ⟨u1, u2⟩ := Hhun.out
          by_cases c1 : r.kind = 1
          · have e1 : (r.kind == 1) = true := by simp [c1]
            have ht : timesR r.kind r.many n = n := by simp [timesR, c1]
            rw [ht] at HT
            obtain ⟨t1, t2, t3⟩ := HT.out
            have HR := Lib.hid t1
            clear c1 ht t1 hk1 hk2
            go_wp2_with fail
            refine (HH.out _).mono ?_
            rintro e w' ⟨rfl, hb'⟩
            have hb2 := below_step Hbr.out hb'
            clear hb'
            go_wp2_with fail
            go_ret
            exact ⟨ret_int HR.out.symm, hb2⟩
          · have e1 : (r.kind == 1) = false := by simp [c1]
            by_cases c2 : r.kind = 2
            · have e2 : (r.kind == 2) = true := by simp [c2]
              by_cases hn : 0 < n
              · have ht : timesR r.kind r.many n = n.tdiv r.many := by simp [timesR, c2, hn]
                rw [ht] at HT
                obtain ⟨t1, t2, t3⟩ := HT.out
                have HR := Lib.hid t1
                have hm1 := Hmany.out c2
                have hq := tdiv_64 (show Int64 n by unfold Int64; omega) (show 0 < r.many by omega)
                obtain ⟨hq1, hq2⟩ := hq
                have hne : r.many ≠ 0 := by omega
                clear c1 c2 ht t1 hk1 hk2
                go_wp2_with fail
                refine (HH.out _).mono ?_
                rintro e w' ⟨rfl, hb'⟩
                have hb2 := below_step Hbr.out hb'
                clear hb'
                go_wp2_with fail
                go_ret
                exact ⟨ret_int HR.out.symm, hb2⟩
              · have ht : timesR r.kind r.many n = 0 := by simp [timesR, c2, hn]
                rw [ht, Int.zero_mul] at HT
                have HR := Lib.hid HT.out.1
                have e5 : (r.kind == 3) = false := by simp [c2]
                have e6 : (r.kind == 4) = false := by simp [c2]
                clear c1 c2 ht hk1 hk2
                go_wp2_with fail
                refine (HH.out _).mono ?_
                rintro e w' ⟨rfl, hb'⟩
                have hb2 := below_step Hbr.out hb'
                clear hb'
                go_wp2_with fail
                go_ret
                exact ⟨ret_int HR.out.symm, hb2⟩
            · have e2 : (r.kind == 2) = false := by simp [c2]
              by_cases c3 : r.kind = 3
              · have e5 : (r.kind == 3) = true := by simp [c3]
                have e6 : (r.kind == 4) = false := by simp [c3]
                by_cases hn : r.many ≤ n
                · have ht : timesR r.kind r.many n = 1 := by simp [timesR, c3, hn]
                  rw [ht, Int.one_mul] at HT
                  have HR := Lib.hid HT.out.1
                  clear c1 c2 c3 ht hk1 hk2
                  go_wp2_with fail
                  refine (HH.out _).mono ?_
                  rintro e w' ⟨rfl, hb'⟩
                  have hb2 := below_step Hbr.out hb'
                  clear hb'
                  go_wp2_with fail
                  go_ret
                  exact ⟨ret_int HR.out.symm, hb2⟩
                · have ht : timesR r.kind r.many n = 0 := by simp [timesR, c3, hn]
                  rw [ht, Int.zero_mul] at HT
                  have HR := Lib.hid HT.out.1
                  clear c1 c2 c3 ht hk1 hk2
                  go_wp2_with fail
                  refine (HH.out _).mono ?_
                  rintro e w' ⟨rfl, hb'⟩
                  have hb2 := below_step Hbr.out hb'
                  clear hb'
                  go_wp2_with fail
                  go_ret
                  exact ⟨ret_int HR.out.symm, hb2⟩
              · have c4 : r.kind = 4 := by omega
                have e5 : (r.kind == 3) = false := by simp [c3]
                have e6 : (r.kind == 4) = true := by simp [c4]
                by_cases hn : n = 0
                · have e7 : (n == 0) = true := by simp [hn]
                  have ht : timesR r.kind r.many n = 1 := by simp [timesR, c4, hn]
                  rw [ht, Int.one_mul] at HT
                  have HR := Lib.hid HT.out.1
                  clear c1 c2 c3 c4 ht hk1 hk2 hn
                  go_wp2_with fail
                  refine (HH.out _).mono ?_
                  rintro e w' ⟨rfl, hb'⟩
                  have hb2 := below_step Hbr.out hb'
                  clear hb'
                  go_wp2_with fail
                  go_ret
                  exact ⟨ret_int HR.out.symm, hb2⟩
                · have e7 : (n == 0) = false := by simp [hn]
                  have ht : timesR r.kind r.many n = 0 := by simp [timesR, c4, hn]
                  rw [ht, Int.zero_mul] at HT
                  have HR := Lib.hid HT.out.1
                  clear c1 c2 c3 c4 ht hk1 hk2 hn
                  go_wp2_with fail
                  refine (HH.out _).mono ?_
                  rintro e w' ⟨rfl, hb'⟩
                  have hb2 := below_step Hbr.out hb'
                  clear hb'
                  go_wp2_with fail
                  go_ret
                  exact ⟨ret_int HR.out.symm, hb2⟩
end Go.Proofs.YtfakhapljjbbnaaDoor
