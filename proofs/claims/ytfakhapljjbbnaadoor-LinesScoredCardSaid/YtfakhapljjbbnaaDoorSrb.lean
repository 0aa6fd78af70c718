/- The reference's LineFault. -/
import Derived.Test.YtfakhapljjbbnaaDoorSrt
namespace Go.Proofs.YtfakhapljjbbnaaDoor
open Go.RowKit

/-- The name before number k. -/
def lastT (ts : List TD) (k : Nat) : ByteArray := if k = 0 then ⟨#[]⟩ else (tdAt ts (k - 1)).name
theorem td_ord {ts : List TD} {k : Nat} (h : keyB (tdAt ts k).name = true) : ltS (lastT ts k) (tdAt ts k).name = (decide (k = 0) || ltS (tdAt ts (k - 1)).name (tdAt ts k).name) := by
  unfold lastT
  by_cases h0 : k = 0
  · subst h0; simp [lt_empty h]
  · simp [h0]
theorem td_name {ts : List TD} {k : Nat} {t : TD} (h : ts[k]? = some t) (hn : keyB t.name = false) : tdF ts k = 5 := by
  unfold tdF
  rw [tdAt_some h, hn]
  simp [unlessE, firstE]
theorem td_count {ts : List TD} {k : Nat} {t : TD} (h : ts[k]? = some t) (hn : keyB t.name = true) (hb : betwB t.count (-100000) 100000 = false) : tdF ts k = 1 := by
  unfold tdF
  rw [tdAt_some h, hn, hb]
  simp [unlessE, firstE]
theorem td_order {ts : List TD} {k : Nat} {t : TD} (h : ts[k]? = some t) (hn : keyB t.name = true) (hb : betwB t.count (-100000) 100000 = true) (ho : ltS (lastT ts k) t.name = false) : tdF ts k = 7 := by
  have h2 := td_ord (ts := ts) (k := k) (by rw [tdAt_some h]; exact hn)
  rw [tdAt_some h, ho] at h2
  unfold tdF
  rw [tdAt_some h, hn, hb, ← h2]
  simp [unlessE, firstE]
theorem td_fine {ts : List TD} {k : Nat} {t : TD} (h : ts[k]? = some t) (hn : keyB t.name = true) (hb : betwB t.count (-100000) 100000 = true) (ho : ltS (lastT ts k) t.name = true) : tdF ts k = 0 := by
  have h2 := td_ord (ts := ts) (k := k) (by rw [tdAt_some h]; exact hn)
  rw [tdAt_some h, ho] at h2
  unfold tdF
  rw [tdAt_some h, hn, hb, ← h2]
  simp [unlessE, firstE]
set_option maxRecDepth 100000 in
set_option maxHeartbeats 8000000 in
theorem lineFault_calls (lo : Nat) (l : LD) (x : Value) (w : World) (hT : Tds w lo x l.stats) (hs : SmallL l) : Calls Tryd.prog 13 #[lnV l x] w (IntBelow (lnE l) w) := by
  have hat := tds_at hT
  obtain ⟨ra, rc, hv⟩ := tds_shape hT
  obtain ⟨s1, s2, s3, s4⟩ := hs
  have Hat := Lib.hid hat
  have H4 := Lib.hid s4
  rw [hv] at Hat ⊢
  have hb0 := below_alloc w (.cells #[.string l.player, .int .i64 l.week, .slice ra l.stats.length rc] 32)
  have hx := heap_alloc_new w (.cells #[.string l.player, .int .i64 l.week, .slice ra l.stats.length rc] 32)
  clear hat hv hT s4
  unfold lnV
  cases hk : keyB l.player
  · have HE := Lib.hid (show lnE l = 5 by simp [lnE, hk, unlessE, firstE])
    have Hk := Lib.hid hk
    clear hk
    go_enter Tryd.func13, Tryd.ntmps13
    go_wp2_with fail
    refine (keyR_calls _ _ (by omega)).mono ?_
    rintro e w' ⟨rfl, rfl⟩
    rw [Hk.out]
    go_wp2_with fail
    go_ret
    exact ⟨ret_int HE.out.symm, hb0⟩
  · have Hk := Lib.hid hk
    cases hwk : betwB l.week 1 60
    · have HE := Lib.hid (show lnE l = 1 by simp [lnE, hk, hwk, unlessE, firstE])
      have Hw := Lib.hid hwk
      clear hk hwk
      go_enter Tryd.func13, Tryd.ntmps13
      go_wp2_with fail
      refine (keyR_calls _ _ (by omega)).mono ?_
      rintro e w' ⟨rfl, rfl⟩
      rw [Hk.out]
      go_wp2_with fail
      refine (weekR_calls _ _).mono ?_
      rintro e w' ⟨rfl, rfl⟩
      rw [Hw.out]
      go_wp2_with fail
      go_ret
      exact ⟨ret_int HE.out.symm, hb0⟩
    · have HE := Lib.hid (show lnE l = eachE l.stats.length 40 (tdF l.stats) by simp [lnE, hk, hwk, unlessE, firstE]; exact fun h => h.symm)
      have Hw := Lib.hid hwk
      clear hk hwk
      by_cases hm : l.stats.length ≤ 40
      · have Hm := Lib.hid (show (l.stats.length : Int) ≤ 40 by omega)
        go_enter Tryd.func13, Tryd.ntmps13
        go_wp2_with fail
        refine (keyR_calls _ _ (by omega)).mono ?_
        rintro e w' ⟨rfl, rfl⟩
        rw [Hk.out]
        go_wp2_with fail
        refine (weekR_calls _ _).mono ?_
        rintro e w' ⟨rfl, rfl⟩
        rw [Hw.out]
        go_wp2_with fail
        clear hx
        go_loopw [3, 24] (fun last i wr => ∃ k : Nat, k ≤ l.stats.length ∧ i = .int .i64 k ∧ last = .string (lastT l.stats k) ∧ Hid (∀ i, i < k → tdF l.stats i = 0) ∧ Below w.heap.size w wr) (fun _ i _ => l.stats.length - (intOf i).toNat)
        case atStart => exact ⟨0, Nat.zero_le _, rfl, rfl, Lib.hid (fun i hi => by omega), hb0⟩
        case round =>
          clear hb0
          obtain ⟨k, hk, rfl, rfl, H0, hb⟩ := hrel
          by_cases hlt : k < l.stats.length
          · obtain ⟨t, ht⟩ : ∃ t, l.stats[k]? = some t := ⟨l.stats[k], List.getElem?_eq_getElem hlt⟩
            have Hlast := Lib.hid (show lastT l.stats (k + 1) = t.name by unfold lastT; rw [if_neg (by omega), Nat.add_sub_cancel, tdAt_some ht])
            obtain ⟨u1, u2⟩ := H4.out t (List.mem_of_getElem? ht)
            have Hna := Lib.hid (fun h => td_name ht h)
            have Hco := Lib.hid (fun h1 h2 => td_count ht h1 h2)
            have Hor := Lib.hid (fun h1 h2 h3 => td_order ht h1 h2 h3)
            have Hfi := Lib.hid (fun h1 h2 h3 => td_fine ht h1 h2 h3)
            have Hhit := Lib.hid (fun (h : tdF l.stats k ≠ 0) => (show lnE l = tdF l.stats k by rw [HE.out]; exact eachE_hit Hm.out hlt H0.out h))
            have Hnext := Lib.hid (fun (h : tdF l.stats k = 0) i (hi : i < k + 1) => (show tdF l.stats i = 0 by
              rcases Nat.lt_succ_iff_lt_or_eq.1 hi with h' | rfl
              · exact H0.out i h'
              · exact h))
            rcases Hat.out with ⟨_, h⟩ | ⟨g, off, cap, e, _, hg, _, hcell⟩
            · rw [h] at hlt; simp at hlt
            simp only [Value.slice.injEq] at e
            obtain ⟨rfl, -, rfl⟩ := e
            obtain ⟨q0, q1⟩ := hcell k t ht
            have p0 := below_cell hb q0
            have p1 := below_cell hb q1
            clear ht hcell q0 q1
            go_upto_region 11 with fail
            obtain ⟨wA, hwA⟩ : ∃ wA, wA = wr.alloc (.cells #[.string t.name, .int .i64 t.count] 76) := ⟨_, rfl⟩
            obtain ⟨X, hX⟩ : ∃ X, X = wr.heap.size := ⟨_, rfl⟩
            have hbA : Below w.heap.size w wA := by rw [hwA]; exact below_step hb (below_alloc wr _)
            have hx : wA.heap[X]? = some (.cells #[.string t.name, .int .i64 t.count] 76 (0, 0)) := by rw [hwA, hX]; exact heap_alloc_new wr _
            rw [← hwA, ← hX]
            have x0 := cell_at hx 0 rfl
            have x1 := cell_at hx 1 rfl
            have HbA := Lib.hid hbA
            clear hwA hX hbA hx hb p0 p1
            cases h1 : keyB t.name
            · have H1 := Lib.hid h1
              have HN := Lib.hid (Hna.out h1)
              clear h1
              go_wp2_with fail
              refine (keyR_calls _ _ (by omega)).mono ?_
              rintro e w' ⟨rfl, rfl⟩
              rw [H1.out]
              go_wp2_with fail
              go_ret
              exact ⟨ret_int (by rw [Hhit.out (by rw [HN.out]; omega), HN.out]), HbA.out⟩
            · have H1 := Lib.hid h1
              go_upto_region 13 with (refine (keyR_calls _ _ (by omega)).mono ?_; rintro e w' ⟨rfl, rfl⟩; rw [H1.out])
              cases h2 : betwB t.count (-100000) 100000
              · have H2 := Lib.hid h2
                have HN := Lib.hid (Hco.out h1 h2)
                clear h1 h2
                go_wp2_with fail
                refine (in_calls _ _ _ _).mono ?_
                rintro e w' ⟨rfl, rfl⟩
                rw [H2.out]
                go_wp2_with fail
                go_ret
                exact ⟨ret_int (by rw [Hhit.out (by rw [HN.out]; omega), HN.out]), HbA.out⟩
              · have H2 := Lib.hid h2
                cases ho : ltS (lastT l.stats k) t.name
                · have HN := Lib.hid (Hor.out h1 h2 ho)
                  have ho' : (Op.bytesLess t.name.toList (lastT l.stats k).toList || t.name.toList == (lastT l.stats k).toList) = true := by rw [leS_eq, ho]; rfl
                  clear h1 h2 ho
                  go_wp2_with fail
                  refine (in_calls _ _ _ _).mono ?_
                  rintro e w' ⟨rfl, rfl⟩
                  rw [H2.out]
                  go_wp2_with fail
                  go_ret
                  exact ⟨ret_int (by rw [Hhit.out (by rw [HN.out]; omega), HN.out]), HbA.out⟩
                · have HN := Lib.hid (Hnext.out (Hfi.out h1 h2 ho))
                  have ho' : (Op.bytesLess t.name.toList (lastT l.stats k).toList || t.name.toList == (lastT l.stats k).toList) = false := by rw [leS_eq, ho]; rfl
                  clear h1 h2 ho
                  go_wp2_with fail
                  refine (in_calls _ _ _ _).mono ?_
                  rintro e w' ⟨rfl, rfl⟩
                  rw [H2.out]
                  go_wp2_with fail
                  go_roundw
                  case rel => exact ⟨k + 1, by omega, by go_num, by rw [Hlast.out], HN, HbA.out⟩
                  case measure => simp [intOf]; omega
          · obtain rfl : k = l.stats.length := by omega
            have HN := Lib.hid (show lnE l = 0 by rw [HE.out]; exact eachE_none Hm.out H0.out)
            go_wp2_with fail
            go_ret
            exact ⟨ret_int HN.out.symm, hb⟩
      · have HN := Lib.hid (show lnE l = 2 by rw [HE.out]; unfold eachE; rw [if_pos (by omega)])
        go_enter Tryd.func13, Tryd.ntmps13
        go_wp2_with fail
        refine (keyR_calls _ _ (by omega)).mono ?_
        rintro e w' ⟨rfl, rfl⟩
        rw [Hk.out]
        go_wp2_with fail
        refine (weekR_calls _ _).mono ?_
        rintro e w' ⟨rfl, rfl⟩
        rw [Hw.out]
        go_wp2_with fail
        go_ret
        exact ⟨ret_int HN.out.symm, hb0⟩
end Go.Proofs.YtfakhapljjbbnaaDoor
