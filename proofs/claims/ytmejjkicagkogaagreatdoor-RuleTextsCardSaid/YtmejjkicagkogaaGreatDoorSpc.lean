/- How often something was done, and what a rule gives for it. -/
import Derived.Test.YtmejjkicagkogaaGreatDoorSpb
import Derived.Test.YtmejjkicagkogaaGreatDoorBsk
namespace Go.Proofs.YtmejjkicagkogaaGreatDoor
open Go.RowKit

theorem td_of {ps : List ByteArray} {ts : List TD} (h : ∀ i : Nat, ps[i]? = ts[i]?.map TD.name) {i : Nat} (hi : i < ps.length) : ∃ t, ts[i]? = some t := by
  have := h i
  rw [List.getElem?_eq_getElem hi] at this
  cases ht : ts[i]? with
  | none => rw [ht] at this; simp at this
  | some t => exact ⟨t, rfl⟩
set_option maxRecDepth 100000 in
set_option maxHeartbeats 400000 in
theorem find1_calls (t : TD) (who : ByteArray) (w : World) :
    Calls Tryz.prog 133 #[.agg #[.string t.name, .int .i64 t.count], .string who] w (IntBelow (cmpS t.name who) w) := by
  go_enter Tryz.func133, Tryz.ntmps133
  go_wp2_with fail
  refine (strCompare_calls t.name who _).mono ?_
  rintro e w' ⟨rfl, rfl⟩
  rw [cmpS_eq]
  go_wp2_with fail
  go_ret
  exact ⟨rfl, below_alloc w _⟩

set_option maxRecDepth 100000 in
set_option maxHeartbeats 1000000 in
theorem binarySearch_calls (lo : Nat) (who : ByteArray) (v : Value) (ts : List TD) (w : World) (hp : Tds w lo v ts) :
    Calls Tryz.prog 132 #[v, .string who, .func (.func 133) #[] #[]] w (Found (ts.map TD.name) who w) := by
  rcases tds_at hp with ⟨rfl, rfl⟩ | ⟨g, off, cap, rfl, _, hg, hn, hcell⟩
  · clear hp
    go_enter Tryz.func132, Tryz.ntmps132
    go_wp2
    refine wp_loop_rounds 1 ?_
    rw [rounds_succ]
    go_wp2
    go_ret2
    exact ⟨rfl, Below.refl _ _⟩
  · clear hp
    obtain ⟨ps, hps⟩ : ∃ ps, ps = ts.map TD.name := ⟨_, rfl⟩
    have hpl : ts.length = ps.length := by rw [hps]; simp
    have Hpt := Lib.hid (show ∀ i : Nat, ps[i]? = ts[i]?.map TD.name from fun i => by rw [hps]; simp)
    have Hbs := Lib.hid hps
    rw [← hps, hpl]
    rw [hpl] at hn
    clear hps hpl
    go_enter Tryz.func132, Tryz.ntmps132
    go_wp2_with fail
    go_loopw [9, 10] (fun a b wr => ∃ i j : Nat, i ≤ j ∧ j ≤ ps.length ∧ a = .int .i64 i ∧ b = .int .i64 j ∧ Below w.heap.size w wr ∧ Hid (∃ f, bsI ps who = bs ps who f i j ∧ j - i ≤ f)) (fun a b _ => (intOf b).toNat - (intOf a).toNat)
    case atStart => exact ⟨0, ps.length, by omega, by omega, rfl, rfl, Below.refl _ _, Lib.hid ⟨ps.length, rfl, by omega⟩⟩
    case round =>
      obtain ⟨i, j, hij, hj, rfl, rfl, hb, Hf⟩ := hrel
      by_cases hlt : i < j
      · have hh : (i + j) / 2 < ps.length := by omega
        obtain ⟨p, hpt⟩ : ∃ p, ts[(i + j) / 2]? = some p := td_of Hpt.out hh
        have Hk := Lib.hid (show keyAt ps ((i + j) / 2) = p.name from keyAt_some (by rw [Hpt.out, hpt]; rfl))
        obtain ⟨h0, h1⟩ := hcell _ p hpt
        have g0 := below_cell hb h0
        have g1 := below_cell hb h1
        clear hpt h0 h1 hcell
        go_wp2_with fail
        refine (find1_calls p who _).mono ?_
        rintro e w' ⟨rfl, hb'⟩
        have hb2 := hb.trans (hb'.mono hb.size)
        cases hl : ltS p.name who
        · have e1 : decide (cmpS p.name who < 0) = false := by rw [cmpS_neg, hl]
          have Hf' := Lib.hid (show ∃ f, bsI ps who = bs ps who f i ((i + j) / 2) ∧ (i + j) / 2 - i ≤ f by
            obtain ⟨f, h1, h2⟩ := Hf.out
            obtain ⟨f', h3, h4⟩ := bs_right hlt h2 (by rw [Hk.out]; exact hl)
            exact ⟨f', h1.trans h3, h4⟩)
          clear hl
          go_wp2_with fail
          go_roundw
          case rel => exact ⟨i, (i + j) / 2, by omega, by omega, rfl, by go_num, hb2, Hf'⟩
          case measure => simp [intOf]; omega
        · have e1 : decide (cmpS p.name who < 0) = true := by rw [cmpS_neg, hl]
          have Hf' := Lib.hid (show ∃ f, bsI ps who = bs ps who f ((i + j) / 2 + 1) j ∧ j - ((i + j) / 2 + 1) ≤ f by
            obtain ⟨f, h1, h2⟩ := Hf.out
            obtain ⟨f', h3, h4⟩ := bs_left hlt h2 (by rw [Hk.out]; exact hl)
            exact ⟨f', h1.trans h3, h4⟩)
          clear hl
          go_wp2_with fail
          go_roundw
          case rel => exact ⟨(i + j) / 2 + 1, j, by omega, by omega, by go_num, rfl, hb2, Hf'⟩
          case measure => simp [intOf]; omega
      · obtain rfl : i = j := by omega
        have HI := Lib.hid (show bsI ps who = i by
          obtain ⟨f, h1, _⟩ := Hf.out
          rw [h1, bs_end (by omega)])
        clear hlt hij
        by_cases hin : i < ps.length
        · obtain ⟨p, hpt⟩ : ∃ p, ts[i]? = some p := td_of Hpt.out hin
          have Hk := Lib.hid (show keyAt ps i = p.name from keyAt_some (by rw [Hpt.out, hpt]; rfl))
          obtain ⟨h0, h1⟩ := hcell _ p hpt
          have g0 := below_cell hb h0
          have g1 := below_cell hb h1
          clear hpt h0 h1 hcell
          go_wp2_with fail
          refine (find1_calls p who _).mono ?_
          rintro e w' ⟨rfl, hb'⟩
          have hb2 := hb.trans (hb'.mono hb.size)
          have Hq := Lib.hid (show (cmpS p.name who == 0) = knownB ps who by
            unfold knownB
            rw [HI.out, Hk.out]
            simp only [hin, decide_true, Bool.true_and]
            exact cmpS_zero _ _)
          have Hq' := Lib.hid (show (cmpS p.name who == 0) = true ∨ (cmpS p.name who == 0) = false by cases (cmpS p.name who == 0) <;> simp)
          rcases Hq'.out with hq | hq
          · go_wp2_with fail
            go_ret2
            refine ⟨?_, hb2⟩
            rw [HI.out, ← Hq.out, hq]; rfl
          · go_wp2_with fail
            go_ret2
            refine ⟨?_, hb2⟩
            rw [HI.out, ← Hq.out, hq]; rfl
        · have Hq := Lib.hid (show knownB ps who = false by unfold knownB; rw [HI.out]; simp [hin])
          go_wp2_with fail
          go_ret2
          refine ⟨?_, hb⟩
          rw [HI.out, Hq.out]; rfl

/-- How often something was done. -/
def cntB (ts : List TD) (stat : ByteArray) : Int := if knownB (ts.map TD.name) stat then (tdAt ts (bsI (ts.map TD.name) stat)).count else 0
theorem known_lt {ps : List ByteArray} {who : ByteArray} (h : knownB ps who = true) : bsI ps who < ps.length := by
  unfold knownB at h
  rw [Bool.and_eq_true] at h
  simpa using h.1
set_option maxRecDepth 100000 in
set_option maxHeartbeats 1000000 in
theorem count_calls (lo : Nat) (l : LD) (x : Value) (stat : ByteArray) (w : World) (hT : Tds w lo x l.stats) : Calls Tryz.prog 115 #[lnV l x, .string stat] w (IntBelow (cntB l.stats stat) w) := by
  obtain ⟨sa, sc, rfl⟩ := tds_shape hT
  have hb0 := below_alloc w (.cells #[.string l.player, .int .i64 l.week, .slice sa l.stats.length sc] 78)
  have hT1 := hT.below hb0
  have hx := heap_alloc_new w (.cells #[.string l.player, .int .i64 l.week, .slice sa l.stats.length sc] 78)
  have C := Lib.hid (binarySearch_calls lo stat _ l.stats _ hT1)
  clear hT
  unfold lnV
  go_enter Tryz.func115, Tryz.ntmps115
  go_wp2_with fail
  refine C.out.mono ?_
  rintro e w' ⟨rfl, hb⟩
  have hx2 := cells_later hx hb
  have z2 := cell_at hx2 2 rfl
  have hT2 := hT1.below hb
  have Hb := Lib.hid (below_step hb0 hb)
  clear hx hx2 hT1 hb hb0 C
  cases hk : knownB (l.stats.map TD.name) stat
  · have HC := Lib.hid (show cntB l.stats stat = 0 by simp [cntB, hk])
    clear hk hT2
    go_wp2_with fail
    go_ret
    exact ⟨ret_int HC.out.symm, Hb.out⟩
  · have HC := Lib.hid (show cntB l.stats stat = (tdAt l.stats (bsI (l.stats.map TD.name) stat)).count by simp [cntB, hk])
    have hlt : bsI (l.stats.map TD.name) stat < l.stats.length := by simpa using known_lt hk
    generalize bsI (l.stats.map TD.name) stat = q at hlt HC ⊢
    obtain ⟨t, ht⟩ : ∃ t, l.stats[q]? = some t := ⟨_, List.getElem?_eq_getElem hlt⟩
    have HC2 := Lib.hid (show cntB l.stats stat = t.count by rw [HC.out, tdAt_some ht])
    rcases tds_at hT2 with ⟨_, h⟩ | ⟨g, off, cap, e, _, hg, hn, hcell⟩
    · rw [h] at hlt; simp at hlt
    obtain ⟨p0, p1⟩ := hcell q t ht
    rw [e] at z2
    clear hk hT2 hcell HC ht e
    go_wp2_with fail
    go_ret
    exact ⟨ret_int HC2.out.symm, Hb.out⟩

def onceI (b : Bool) : Int := if b then 1 else 0
set_option maxHeartbeats 400000 in
theorem once_calls (b : Bool) (w : World) : Calls Tryz.prog 131 #[.bool b] w fun e w' => e = .returned (.int .i64 (onceI b)) ∧ w = w' := by
  cases b
  · go_enter Tryz.func131, Tryz.ntmps131
    go_wp2
    go_ret
    exact ⟨rfl, rfl⟩
  · go_enter Tryz.func131, Tryz.ntmps131
    go_wp2
    go_ret
    exact ⟨rfl, rfl⟩
/-- How many times a rule gives its Worth. -/
def timesI (kind many n : Int) : Int := if kind = 1 then n else if kind = 2 then (max n 0).tdiv many else if kind = 3 then onceI (decide (many ≤ n)) else onceI (n == 0)
set_option maxRecDepth 100000 in
set_option maxHeartbeats 1000000 in
theorem times_calls (r : RD) (n : Int) (w : World) (hn : Int64 n) (hm : r.kind = 2 → 1 ≤ r.many) : Calls Tryz.prog 114 #[rlV r, .int .i64 n] w fun e w' => e = .returned (.int .i64 (timesI r.kind r.many n)) ∧ Below w.heap.size w w' := by
  have hb := below_alloc w (.cells (rlRow r).toArray 40)
  unfold rlRow at hb
  unfold rlV
  by_cases h1 : r.kind = 1
  · have e1 : (r.kind == 1) = true := by simp [h1]
    have HT := Lib.hid (show timesI r.kind r.many n = n by simp [timesI, h1])
    clear h1 hm
    go_enter Tryz.func114, Tryz.ntmps114
    go_wp2_with fail
    go_ret
    exact ⟨ret_int HT.out.symm, hb⟩
  · have e1 : (r.kind == 1) = false := by simp [h1]
    by_cases h2 : r.kind = 2
    · have e2 : (r.kind == 2) = true := by simp [h2]
      have HT := Lib.hid (show timesI r.kind r.many n = (max n 0).tdiv r.many by simp [timesI, h2])
      have hm1 := hm h2
      have hmx : Int64 (max n 0) := by unfold Int64 at *; omega
      have hq := tdiv_64 hmx (show 0 < r.many by omega)
      obtain ⟨hq1, hq2⟩ := hq
      have hne : r.many ≠ 0 := by omega
      generalize hM : max n 0 = M at HT hq1 hq2
      clear h1 h2 hm hmx hn
      go_enter Tryz.func114, Tryz.ntmps114
      go_wp2_with fail
      go_ret
      exact ⟨ret_int HT.out.symm, hb⟩
    · have e2 : (r.kind == 2) = false := by simp [h2]
      by_cases h3 : r.kind = 3
      · have e3 : (r.kind == 3) = true := by simp [h3]
        have HT := Lib.hid (show timesI r.kind r.many n = onceI (decide (r.many ≤ n)) by simp [timesI, h3])
        clear h1 h2 h3 hm
        go_enter Tryz.func114, Tryz.ntmps114
        go_wp2_with fail
        refine (once_calls _ _).mono ?_
        rintro e w' ⟨rfl, rfl⟩
        go_wp2_with fail
        go_ret
        exact ⟨ret_int HT.out.symm, hb⟩
      · have e3 : (r.kind == 3) = false := by simp [h3]
        have HT := Lib.hid (show timesI r.kind r.many n = onceI (n == 0) by simp [timesI, h1, h2, h3])
        clear h1 h2 h3 hm
        go_enter Tryz.func114, Tryz.ntmps114
        go_wp2_with fail
        refine (once_calls _ _).mono ?_
        rintro e w' ⟨rfl, rfl⟩
        go_wp2_with fail
        go_ret
        exact ⟨ret_int HT.out.symm, hb⟩
end Go.Proofs.YtmejjkicagkogaaGreatDoor
