/- The reference's ListFault and PlayersFault. -/
import Derived.Test.YtiedmbgdmafhaaaGreatDoorRefb
namespace Go.Proofs.YtiedmbgdmafhaaaGreatDoor
open Go.RowKit

def lfE (need : Bool) (ks : List ByteArray) : Int := if need && decide (ks.length = 0) then 8 else eachE ks.length 10 (risF ks)
set_option maxRecDepth 100000 in
set_option maxHeartbeats 1000000 in
theorem listFault_calls (need : Bool) (lo : Nat) (v : Value) (ks : List ByteArray) (w : World) (hv : Strs w lo v ks) (hk : ∀ k ∈ ks, k.size ≤ 1000) (hn : ks.length ≤ 1000000) :
    Calls Tryz.prog 92 #[v, .bool need] w fun e w' => e = .returned (.int .i64 (lfE need ks)) ∧ w = w' := by
  obtain ⟨a, c, rfl⟩ := strs_shape' hv
  have HC := Lib.hid (risingR_calls lo _ ks w hv hk hn)
  clear hv hk
  by_cases h10 : 10 < ks.length
  · have HE := Lib.hid (show lfE need ks = 2 by
      unfold lfE eachE
      rw [decide_eq_false (show ¬ ks.length = 0 by omega), if_pos (show (10 : Int) < ks.length by omega)]
      cases need <;> rfl)
    cases need <;>
    · go_enter Tryz.func92, Tryz.ntmps92
      go_wp2_with fail
      go_ret
      exact ⟨ret_int HE.out.symm, rfl⟩
  · have HX := Lib.hid (show eachE ks.length 10 (risF ks) = errsTo (risF ks) ks.length by unfold eachE; rw [if_neg (by omega)]; rfl)
    cases need
    · have HE := Lib.hid (show lfE false ks = errsTo (risF ks) ks.length by rw [← HX.out]; rfl)
      go_enter Tryz.func92, Tryz.ntmps92
      go_wp2_with fail
      refine HC.out.mono ?_
      rintro e w' ⟨rfl, rfl⟩
      go_wp2_with fail
      go_ret
      exact ⟨ret_int HE.out.symm, rfl⟩
    · by_cases h0 : ks.length = 0
      · have HE := Lib.hid (show lfE true ks = 8 by unfold lfE; rw [decide_eq_true h0]; rfl)
        have h0' : ((ks.length : Int) == 0) = true := by rw [beq_iff_eq]; omega
        go_enter Tryz.func92, Tryz.ntmps92
        go_wp2_with fail
        go_ret
        exact ⟨ret_int HE.out.symm, rfl⟩
      · have HE := Lib.hid (show lfE true ks = errsTo (risF ks) ks.length by
          rw [← HX.out]; unfold lfE; rw [decide_eq_false h0]; rfl)
        have h0' : ((ks.length : Int) == 0) = false := by rw [beq_eq_false_iff_ne]; omega
        clear h0
        go_enter Tryz.func92, Tryz.ntmps92
        go_wp2_with fail
        refine HC.out.mono ?_
        rintro e w' ⟨rfl, rfl⟩
        go_wp2_with fail
        go_ret
        exact ⟨ret_int HE.out.symm, rfl⟩

/-- A name that both sides read alike. -/
def NameOk (s : ByteArray) : Prop := plainQ s = plainP s ∧ (Lib.goFieldsP (fun x => decide (x = 32)) s).length ≤ 1000000 ∧ (rejoin s).length ≤ 1000000
def lastKey (ps : List PD) (k : Nat) : ByteArray := if k = 0 then ⟨#[]⟩ else (plAt ps (k - 1)).key
def ordB (ps : List PD) (k : Nat) : Bool := decide (k = 0) || ltS (plAt ps (k - 1)).key (plAt ps k).key
theorem lt_empty {s : ByteArray} (h : keyB s = true) : ltS ⟨#[]⟩ s = true := by
  unfold keyB at h
  simp only [Bool.and_eq_true, decide_eq_true_eq] at h
  unfold ltS
  rw [ByteArray.toList_eq, ByteArray.toList_eq]
  cases hs : s.data.toList with
  | nil =>
    have := h.1.1.1
    have e : s.size = 0 := by
      show s.data.size = 0
      rw [← Array.length_toList, hs]; rfl
    omega
  | cons => rfl
theorem ord_last {ps : List PD} {k : Nat} (h : keyB (plAt ps k).key = true) : ltS (lastKey ps k) (plAt ps k).key = ordB ps k := by
  unfold lastKey ordB
  by_cases hk : k = 0
  · rw [if_pos hk, lt_empty h, decide_eq_true hk]; rfl
  · rw [if_neg hk, decide_eq_false hk]; rfl
theorem plF_key {ps : List PD} {k : Nat} {p : PD} (hp : ps[k]? = some p) (h : keyB p.key = false) : plF ps k = 5 := by
  unfold plF; rw [plAt_some hp, h]; simp [firstE, unlessE]
theorem plF_ord {ps : List PD} {k : Nat} {p : PD} (hp : ps[k]? = some p) (h : keyB p.key = true) (ho : ordB ps k = false) : plF ps k = 7 := by
  unfold ordB at ho; unfold plF; rw [ho, plAt_some hp, h]; simp [firstE, unlessE]
theorem plF_title {ps : List PD} {k : Nat} {p : PD} (hp : ps[k]? = some p) (h : keyB p.key = true) (ho : ordB ps k = true) (ht : titleB p.name = false) : plF ps k = 3 := by
  unfold ordB at ho; unfold plF; rw [ho, plAt_some hp, h, ht]; simp [firstE, unlessE]
theorem plF_list {ps : List PD} {k : Nat} {p : PD} (hp : ps[k]? = some p) (h : keyB p.key = true) (ho : ordB ps k = true) (ht : titleB p.name = true) : plF ps k = lfE true p.pos := by
  unfold ordB at ho; unfold plF lfE; rw [ho, plAt_some hp, h, ht]
  by_cases h0 : p.pos.length = 0
  · rw [decide_eq_false (show ¬ 0 < p.pos.length by omega), decide_eq_true h0]; simp [firstE, unlessE]
  · rw [decide_eq_true (show 0 < p.pos.length by omega), decide_eq_false h0]
    simp only [firstE, unlessE]
    split <;> simp_all
theorem title_eq {s : ByteArray} (h : NameOk s) : titleB s = (plainQ s && betwB (s.size : Int) 1 60) := by
  unfold titleB betwB
  rw [h.1]
  by_cases h0 : s.size = 0
  · rw [decide_eq_false (show ¬ s.size ≠ 0 by simpa using h0), decide_eq_false (show ¬ (1 : Int) ≤ s.size by omega)]; simp
  · rw [decide_eq_true (show s.size ≠ 0 from h0), decide_eq_true (show (1 : Int) ≤ s.size by omega)]
    by_cases h6 : s.size ≤ 60
    · rw [decide_eq_true h6, decide_eq_true (show (s.size : Int) ≤ 60 by omega)]; simp
    · rw [decide_eq_false h6, decide_eq_false (show ¬ (s.size : Int) ≤ 60 by omega)]; simp

set_option maxRecDepth 100000 in
set_option maxHeartbeats 4000000 in
theorem playersFault_calls (lo : Nat) (v : Value) (ps : List PD) (w : World) (hp : Plays w lo v ps) (hs : ∀ p ∈ ps, SmallP p ∧ NameOk p.name) (hn : ps.length ≤ 1000000) (hG : Glob w) :
    Calls Tryz.prog 16 #[v] w (IntBelow (chkPs ps) w) := by
  rcases plays_at hp with ⟨rfl, rfl⟩ | ⟨gg, off, cap, rfl, hlo, hg, hn', hcell⟩
  · clear hp hG
    go_enter Tryz.func16, Tryz.ntmps16
    go_wp2
    refine wp_loop_rounds 1 ?_
    rw [rounds_succ]
    go_wp2
    go_ret
    exact ⟨rfl, Below.refl _ _⟩
  by_cases h5 : 500 < ps.length
  · have HE := Lib.hid (show chkPs ps = 2 by unfold chkPs eachE; rw [if_pos (by omega)])
    clear hcell hp hG hs
    go_enter Tryz.func16, Tryz.ntmps16
    go_wp2_with fail
    go_ret
    exact ⟨ret_int HE.out.symm, Below.refl _ _⟩
  have HE := Lib.hid (show chkPs ps = errsTo (plF ps) ps.length by unfold chkPs eachE; rw [if_neg (by omega)]; rfl)
  have Hc := Lib.hid hcell
  have Hs := Lib.hid (show ∀ (i : Nat) (p : PD), ps[i]? = some p → SmallP p ∧ NameOk p.name from fun i p h => hs p (List.mem_of_getElem? h))
  have HG := Lib.hid hG
  clear hcell hp hs hG
  go_enter Tryz.func16, Tryz.ntmps16
  go_wp2_with fail
  go_loopw [3, 12] (fun last i wr => ∃ k : Nat, k ≤ ps.length ∧ i = .int .i64 k ∧ last = .string (lastKey ps k) ∧ Below w.heap.size w wr ∧ Hid (∀ i, i < k → plF ps i = 0)) (fun _ i _ => ps.length - (intOf i).toNat)
  case atStart => exact ⟨0, Nat.zero_le _, rfl, rfl, Below.refl _ _, Lib.hid fun i hi => by omega⟩
  case round =>
    obtain ⟨k, hk, rfl, rfl, hb, H0⟩ := hrel
    by_cases hlt : k < ps.length
    · obtain ⟨p, hpk⟩ : ∃ p, ps[k]? = some p := ⟨ps[k], List.getElem?_eq_getElem hlt⟩
      obtain ⟨pv, h0, h1, h2, h3⟩ := Hc.out k p hpk
      have g0 := below_cell hb h0
      have g1 := below_cell hb h1
      have g2 := below_cell hb h2
      obtain ⟨⟨s1, s2, s3, s4⟩, hno⟩ := Hs.out k p hpk
      have hgb := HG.out.below hb
      obtain ⟨qa, qc, rfl⟩ := strs_shape h3
      have Hnext := Lib.hid (show plF ps k = 0 → ∀ i, i < k + 1 → plF ps i = 0 from fun h i hi => by
        rcases Nat.lt_succ_iff_lt_or_eq.1 hi with h' | rfl
        · exact H0.out i h'
        · exact h)
      have Hhit := Lib.hid (show plF ps k ≠ 0 → chkPs ps = plF ps k from fun h => by rw [HE.out]; exact errsTo_hit hlt H0.out h)
      have HL := Lib.hid (show lastKey ps (k + 1) = p.key by unfold lastKey; rw [if_neg (by omega), Nat.add_sub_cancel, plAt_some hpk])
      have hbo := below_step hb (below_alloc wr (.cells #[.string p.key, .string p.name, .slice qa p.pos.length qc] 86))
      have HP3 := Lib.hid (show ∀ w', Below (wr.alloc (.cells #[.string p.key, .string p.name, .slice qa p.pos.length qc] 86)).heap.size (wr.alloc (.cells #[.string p.key, .string p.name, .slice qa p.pos.length qc] 86)) w' → Strs w' lo (.slice qa p.pos.length qc) p.pos from fun w' hb' => ((h3.below hb).below (below_alloc wr _)).below hb')
      have HX := Lib.hid (show ∀ w', Below (wr.alloc (.cells #[.string p.key, .string p.name, .slice qa p.pos.length qc] 86)).heap.size (wr.alloc (.cells #[.string p.key, .string p.name, .slice qa p.pos.length qc] 86)) w' → w'.cell? ⟨wr.heap.size, 0, none⟩ = some (.string p.key) ∧ w'.cell? ⟨wr.heap.size, 2, none⟩ = some (.slice qa p.pos.length qc) ∧ w'.cell? ⟨wr.heap.size, 1, none⟩ = some (.string p.name) from fun w' hb' => ⟨below_cell hb' (by rw [World.cell?_alloc_at _ _ _ _ rfl]; rfl), below_cell hb' (by rw [World.cell?_alloc_at _ _ _ _ rfl]; rfl), below_cell hb' (by rw [World.cell?_alloc_at _ _ _ _ rfl]; rfl)⟩)
      have HGo := Lib.hid (hgb.below (below_alloc wr (.cells #[.string p.key, .string p.name, .slice qa p.pos.length qc] 86)))
      have HN := Lib.hid hno
      have Hpk := Lib.hid hpk
      have HO := Lib.hid (show keyB p.key = true → ltS (lastKey ps k) p.key = ordB ps k from fun h => by have := ord_last (ps := ps) (k := k) (by rw [plAt_some hpk]; exact h); rwa [plAt_some hpk] at this)
      have S4 := Lib.hid s4
      clear h0 h1 h2 h3 hno hpk hgb s4
      by_cases hkey : keyB p.key = true
      · have HK := Lib.hid hkey
        clear hkey
        by_cases ho : ordB ps k = true
        · have e1 : (Op.bytesLess p.key.toList (lastKey ps k).toList || p.key.toList == (lastKey ps k).toList) = false := by rw [leS_eq, HO.out HK.out, ho]; rfl
          have Ho := Lib.hid ho
          clear ho
          by_cases hq : plainQ p.name = true
          · have HQ := Lib.hid hq
            clear hq
            by_cases hb6 : betwB (p.name.size : Int) 1 60 = true
            · have HB := Lib.hid hb6
              have HT := Lib.hid (plF_list Hpk.out HK.out Ho.out (show titleB p.name = true by rw [title_eq HN.out, HQ.out, HB.out]; rfl))
              clear hb6
              by_cases hl : lfE true p.pos = 0
              · have HLf := Lib.hid hl
                have Hgo := Lib.hid (Hnext.out (by rw [HT.out]; exact hl))
                clear hl
                go_wp2_with fail
                refine (keyR_calls p.key _ (by omega)).mono ?_
                rintro e w' ⟨rfl, rfl⟩
                rw [HK.out]
                go_wp2_with fail
                refine (qplain_calls p.name _ (by omega) HGo.out HN.out.2.1 HN.out.2.2).mono ?_
                rintro e w1 ⟨rfl, hb1⟩
                rw [HQ.out]
                obtain ⟨x0, x2, x1⟩ := HX.out w1 hb1
                go_wp2_with fail
                refine (in_calls _ _ _ _).mono ?_
                rintro e w' ⟨rfl, rfl⟩
                rw [HB.out]
                go_wp2_with fail
                refine (listFault_calls true lo _ p.pos w1 (HP3.out w1 hb1) S4.out (by omega)).mono ?_
                rintro e w' ⟨rfl, rfl⟩
                rw [HLf.out]
                go_wp2_with fail
                go_roundw
                case rel => exact ⟨k + 1, by omega, by go_num, by rw [HL.out], below_step hbo hb1, Hgo⟩
                case measure => simp [intOf]; omega
              · have HLf := Lib.hid hl
                have e2 : (lfE true p.pos != 0) = true := by simpa using hl
                clear hl
                go_wp2_with fail
                refine (keyR_calls p.key _ (by omega)).mono ?_
                rintro e w' ⟨rfl, rfl⟩
                rw [HK.out]
                go_wp2_with fail
                refine (qplain_calls p.name _ (by omega) HGo.out HN.out.2.1 HN.out.2.2).mono ?_
                rintro e w1 ⟨rfl, hb1⟩
                rw [HQ.out]
                obtain ⟨x0, x2, x1⟩ := HX.out w1 hb1
                go_wp2_with fail
                refine (in_calls _ _ _ _).mono ?_
                rintro e w' ⟨rfl, rfl⟩
                rw [HB.out]
                go_wp2_with fail
                refine (listFault_calls true lo _ p.pos w1 (HP3.out w1 hb1) S4.out (by omega)).mono ?_
                rintro e w' ⟨rfl, rfl⟩
                go_wp2_with fail
                go_ret
                exact ⟨ret_int (by rw [Hhit.out (by rw [HT.out]; exact HLf.out), HT.out]), below_step hbo hb1⟩
            · have HB := Lib.hid (show betwB (p.name.size : Int) 1 60 = false by simpa using hb6)
              have HT := Lib.hid (plF_title Hpk.out HK.out Ho.out (show titleB p.name = false by rw [title_eq HN.out, HB.out]; simp))
              clear hb6
              go_wp2_with fail
              refine (keyR_calls p.key _ (by omega)).mono ?_
              rintro e w' ⟨rfl, rfl⟩
              rw [HK.out]
              go_wp2_with fail
              refine (qplain_calls p.name _ (by omega) HGo.out HN.out.2.1 HN.out.2.2).mono ?_
              rintro e w1 ⟨rfl, hb1⟩
              rw [HQ.out]
              obtain ⟨x0, x2, x1⟩ := HX.out w1 hb1
              go_wp2_with fail
              refine (in_calls _ _ _ _).mono ?_
              rintro e w' ⟨rfl, rfl⟩
              rw [HB.out]
              go_wp2_with fail
              go_ret
              exact ⟨ret_int (by rw [Hhit.out (by rw [HT.out]; decide), HT.out]), below_step hbo hb1⟩
          · have HQ := Lib.hid (show plainQ p.name = false by simpa using hq)
            have HT := Lib.hid (plF_title Hpk.out HK.out Ho.out (show titleB p.name = false by rw [title_eq HN.out, HQ.out]; rfl))
            clear hq
            go_wp2_with fail
            refine (keyR_calls p.key _ (by omega)).mono ?_
            rintro e w' ⟨rfl, rfl⟩
            rw [HK.out]
            go_wp2_with fail
            refine (qplain_calls p.name _ (by omega) HGo.out HN.out.2.1 HN.out.2.2).mono ?_
            rintro e w1 ⟨rfl, hb1⟩
            rw [HQ.out]
            go_wp2_with fail
            go_ret
            exact ⟨ret_int (by rw [Hhit.out (by rw [HT.out]; decide), HT.out]), below_step hbo hb1⟩
        · have e1 : (Op.bytesLess p.key.toList (lastKey ps k).toList || p.key.toList == (lastKey ps k).toList) = true := by rw [leS_eq, HO.out HK.out]; simpa using ho
          have HT := Lib.hid (plF_ord Hpk.out HK.out (show ordB ps k = false by simpa using ho))
          clear ho
          go_wp2_with fail
          refine (keyR_calls p.key _ (by omega)).mono ?_
          rintro e w' ⟨rfl, rfl⟩
          rw [HK.out]
          go_wp2_with fail
          go_ret
          exact ⟨ret_int (by rw [Hhit.out (by rw [HT.out]; decide), HT.out]), hbo⟩
      · have HK := Lib.hid (show keyB p.key = false by simpa using hkey)
        have HT := Lib.hid (plF_key Hpk.out HK.out)
        clear hkey
        go_wp2_with fail
        refine (keyR_calls p.key _ (by omega)).mono ?_
        rintro e w' ⟨rfl, rfl⟩
        rw [HK.out]
        go_wp2_with fail
        go_ret
        exact ⟨ret_int (by rw [Hhit.out (by rw [HT.out]; decide), HT.out]), hbo⟩
    · obtain rfl : k = ps.length := by omega
      go_wp2_with fail
      go_ret
      exact ⟨ret_int (by rw [HE.out]; exact (errsTo_none H0.out).symm), hb⟩
end Go.Proofs.YtiedmbgdmafhaaaGreatDoor
