/- The reference's ListFault and PlayersFault. -/
import Derived.Test.YthlfjfmlmcoihaaGreatMgag
import Derived.Test.YthlfjfmlmcoihaaGreatMgac
import Derived.Test.YthlfjfmlmcoihaaGreatMgae
import Derived.Test.YthlfjfmlmcoihaaGreatMgab
import Derived.Test.YthlfjfmlmcoihaaGreatMgad
/- How often something was done, and what a rule gives for it. -/
namespace Go.Proofs.YthlfjfmlmcoihaaGreat
open Go.RowKit

theorem td_of {ps : List ByteArray} {ts : List TD} (h : ∀ i : Nat, ps[i]? = ts[i]?.map TD.name) {i : Nat} (hi : i < ps.length) : ∃ t, ts[i]? = some t := by
  have := h i
  rw [List.getElem?_eq_getElem hi] at this
  cases ht : ts[i]? with
  | none => rw [ht] at this; simp at this
  | some t => exact ⟨t, rfl⟩
set_option maxRecDepth 100000 in
set_option maxHeartbeats 400000 in
theorem find1_calls (t : TD) (who : ByteArray) (w : World) :
    Calls Tryz.prog 176 #[.agg #[.string t.name, .int .i64 t.count], .string who] w (IntBelow (cmpS t.name who) w) := by
  go_enter Tryz.func176, Tryz.ntmps176
  go_wp2_with fail
  refine (strCompare_calls t.name who _).mono ?_
  rintro e w' ⟨rfl, rfl⟩
  rw [cmpS_eq]
  go_wp2_with fail
  go_ret
  exact ⟨rfl, below_alloc w _⟩

set_option maxRecDepth 100000 in
set_option maxHeartbeats 1000000 in
theorem binarySearch_calls (lo : Nat) (who : ByteArray) (v : Value) (ts : List TD) (w : World) (hp : Tds w lo v ts) :
    Calls Tryz.prog 175 #[v, .string who, .func (.func 176) #[] #[]] w (Found (ts.map TD.name) who w) := by
  rcases tds_at hp with ⟨rfl, rfl⟩ | ⟨g, off, cap, rfl, _, hg, hn, hcell⟩
  · clear hp
    go_enter Tryz.func175, Tryz.ntmps175
    go_wp2
    refine wp_loop_rounds 1 ?_
    rw [rounds_succ]
    go_wp2
    go_ret2
    exact ⟨rfl, Below.refl _ _⟩
  · clear hp
    obtain ⟨ps, hps⟩ : ∃ ps, ps = ts.map TD.name := ⟨_, rfl⟩
    have hpl : ts.length = ps.length := by rw [hps]; simp
    have Hpt := Lib.hid (show ∀ i : Nat, ps[i]? = ts[i]?.map TD.name from fun i => by rw [hps]; simp)
    have Hbs := Lib.hid hps
    rw [← hps, hpl]
    rw [hpl] at hn
    clear hps hpl
    go_enter Tryz.func175, Tryz.ntmps175
    go_wp2_with fail
    go_loopw [9, 10] (fun a b wr => ∃ i j : Nat, i ≤ j ∧ j ≤ ps.length ∧ a = .int .i64 i ∧ b = .int .i64 j ∧ Below w.heap.size w wr ∧ Hid (∃ f, bsI ps who = bs ps who f i j ∧ j - i ≤ f)) (fun a b _ => (intOf b).toNat - (intOf a).toNat)
    case atStart => exact ⟨0, ps.length, by omega, by omega, rfl, rfl, Below.refl _ _, Lib.hid ⟨ps.length, rfl, by omega⟩⟩
    case round =>
      obtain ⟨i, j, hij, hj, rfl, rfl, hb, Hf⟩ := hrel
      by_cases hlt : i < j
      · have hh : (i + j) / 2 < ps.length := by omega
        obtain ⟨p, hpt⟩ : ∃ p, ts[(i + j) / 2]? = some p := td_of Hpt.out hh
        have Hk := Lib.hid (show keyAt ps ((i + j) / 2) = p.name from keyAt_some (by rw [Hpt.out, hpt]; rfl))
        obtain ⟨h0, h1⟩ := hcell _ p hpt
        have g0 := below_cell hb h0
        have g1 := below_cell hb h1
        clear hpt h0 h1 hcell
        go_wp2_with fail
        refine (find1_calls p who _).mono ?_
        rintro e w' ⟨rfl, hb'⟩
        have hb2 := hb.trans (hb'.mono hb.size)
        cases hl : ltS p.name who
        · have e1 : decide (cmpS p.name who < 0) = false := by rw [cmpS_neg, hl]
          have Hf' := Lib.hid (show ∃ f, bsI ps who = bs ps who f i ((i + j) / 2) ∧ (i + j) / 2 - i ≤ f by
            obtain ⟨f, h1, h2⟩ := Hf.out
            obtain ⟨f', h3, h4⟩ := bs_right hlt h2 (by rw [Hk.out]; exact hl)
            exact ⟨f', h1.trans h3, h4⟩)
          clear hl
          go_wp2_with fail
          go_roundw
          case rel => exact ⟨i, (i + j) / 2, by omega, by omega, rfl, by go_num, hb2, Hf'⟩
          case measure => simp [intOf]; omega
        · have e1 : decide (cmpS p.name who < 0) = true := by rw [cmpS_neg, hl]
          have Hf' := Lib.hid (show ∃ f, bsI ps who = bs ps who f ((i + j) / 2 + 1) j ∧ j - ((i + j) / 2 + 1) ≤ f by
            obtain ⟨f, h1, h2⟩ := Hf.out
            obtain ⟨f', h3, h4⟩ := bs_left hlt h2 (by rw [Hk.out]; exact hl)
            exact ⟨f', h1.trans h3, h4⟩)
          clear hl
          go_wp2_with fail
          go_roundw
          case rel => exact ⟨(i + j) / 2 + 1, j, by omega, by omega, by go_num, rfl, hb2, Hf'⟩
          case measure => simp [intOf]; omega
      · obtain rfl : i = j := by omega
        have HI := Lib.hid (show bsI ps who = i by
          obtain ⟨f, h1, _⟩ := Hf.out
          rw [h1, bs_end (by omega)])
        clear hlt hij
        by_cases hin : i < ps.length
        · obtain ⟨p, hpt⟩ : ∃ p, ts[i]? = some p := td_of Hpt.out hin
          have Hk := Lib.hid (show keyAt ps i = p.name from keyAt_some (by rw [Hpt.out, hpt]; rfl))
          obtain ⟨h0, h1⟩ := hcell _ p hpt
          have g0 := below_cell hb h0
          have g1 := below_cell hb h1
          clear hpt h0 h1 hcell
          go_wp2_with fail
          refine (find1_calls p who _).mono ?_
          rintro e w' ⟨rfl, hb'⟩
          have hb2 := hb.trans (hb'.mono hb.size)
          have Hq := Lib.hid (show (cmpS p.name who == 0) = knownB ps who by
            unfold knownB
            rw [HI.out, Hk.out]
            simp only [hin, decide_true, Bool.true_and]
            exact cmpS_zero _ _)
          have Hq' := Lib.hid (show (cmpS p.name who == 0) = true ∨ (cmpS p.name who == 0) = false by cases (cmpS p.name who == 0) <;> simp)
          rcases Hq'.out with hq | hq
          · go_wp2_with fail
            go_ret2
            refine ⟨?_, hb2⟩
            rw [HI.out, ← Hq.out, hq]; rfl
          · go_wp2_with fail
            go_ret2
            refine ⟨?_, hb2⟩
            rw [HI.out, ← Hq.out, hq]; rfl
        · have Hq := Lib.hid (show knownB ps who = false by unfold knownB; rw [HI.out]; simp [hin])
          go_wp2_with fail
          go_ret2
          refine ⟨?_, hb⟩
          rw [HI.out, Hq.out]; rfl

/-- How often something was done. -/
def cntB (ts : List TD) (stat : ByteArray) : Int := if knownB (ts.map TD.name) stat then (tdAt ts (bsI (ts.map TD.name) stat)).count else 0
theorem known_lt {ps : List ByteArray} {who : ByteArray} (h : knownB ps who = true) : bsI ps who < ps.length := by
  unfold knownB at h
  rw [Bool.and_eq_true] at h
  simpa using h.1
set_option maxRecDepth 100000 in
set_option maxHeartbeats 1000000 in
theorem count_calls (lo : Nat) (l : LD) (x : Value) (stat : ByteArray) (w : World) (hT : Tds w lo x l.stats) : Calls Tryz.prog 162 #[lnV l x, .string stat] w (IntBelow (cntB l.stats stat) w) := by
  obtain ⟨sa, sc, rfl⟩ := tds_shape hT
  have hb0 := below_alloc w (.cells #[.string l.player, .int .i64 l.week, .slice sa l.stats.length sc] 125)
  have hT1 := hT.below hb0
  have hx := heap_alloc_new w (.cells #[.string l.player, .int .i64 l.week, .slice sa l.stats.length sc] 125)
  have C := Lib.hid (binarySearch_calls lo stat _ l.stats _ hT1)
  clear hT
  unfold lnV
  go_enter Tryz.func162, Tryz.ntmps162
  go_wp2_with fail
  refine C.out.mono ?_
  rintro e w' ⟨rfl, hb⟩
  have hx2 := cells_later hx hb
  have z2 := cell_at hx2 2 rfl
  have hT2 := hT1.below hb
  have Hb := Lib.hid (below_step hb0 hb)
  clear hx hx2 hT1 hb hb0 C
  cases hk : knownB (l.stats.map TD.name) stat
  · have HC := Lib.hid (show cntB l.stats stat = 0 by simp [cntB, hk])
    clear hk hT2
    go_wp2_with fail
    go_ret
    exact ⟨ret_int HC.out.symm, Hb.out⟩
  · have HC := Lib.hid (show cntB l.stats stat = (tdAt l.stats (bsI (l.stats.map TD.name) stat)).count by simp [cntB, hk])
    have hlt : bsI (l.stats.map TD.name) stat < l.stats.length := by simpa using known_lt hk
    generalize bsI (l.stats.map TD.name) stat = q at hlt HC ⊢
    obtain ⟨t, ht⟩ : ∃ t, l.stats[q]? = some t := ⟨_, List.getElem?_eq_getElem hlt⟩
    have HC2 := Lib.hid (show cntB l.stats stat = t.count by rw [HC.out, tdAt_some ht])
    rcases tds_at hT2 with ⟨_, h⟩ | ⟨g, off, cap, e, _, hg, hn, hcell⟩
    · rw [h] at hlt; simp at hlt
    obtain ⟨p0, p1⟩ := hcell q t ht
    rw [e] at z2
    clear hk hT2 hcell HC ht e
    go_wp2_with fail
    go_ret
    exact ⟨ret_int HC2.out.symm, Hb.out⟩

def onceI (b : Bool) : Int := if b then 1 else 0
set_option maxHeartbeats 400000 in
theorem once_calls (b : Bool) (w : World) : Calls Tryz.prog 174 #[.bool b] w fun e w' => e = .returned (.int .i64 (onceI b)) ∧ w = w' := by
  cases b
  · go_enter Tryz.func174, Tryz.ntmps174
    go_wp2
    go_ret
    exact ⟨rfl, rfl⟩
  · go_enter Tryz.func174, Tryz.ntmps174
    go_wp2
    go_ret
    exact ⟨rfl, rfl⟩
/-- How many times a rule gives its Worth. -/
def timesI (kind many n : Int) : Int := if kind = 1 then n else if kind = 2 then (max n 0).tdiv many else if kind = 3 then onceI (decide (many ≤ n)) else onceI (n == 0)
set_option maxRecDepth 100000 in
set_option maxHeartbeats 1000000 in
theorem times_calls (r : RD) (n : Int) (w : World) (hn : Int64 n) (hm : r.kind = 2 → 1 ≤ r.many) : Calls Tryz.prog 161 #[rlV r, .int .i64 n] w fun e w' => e = .returned (.int .i64 (timesI r.kind r.many n)) ∧ Below w.heap.size w w' := by
  have hb := below_alloc w (.cells (rlRow r).toArray 119)
  unfold rlRow at hb
  unfold rlV
  by_cases h1 : r.kind = 1
  · have e1 : (r.kind == 1) = true := by simp [h1]
    have HT := Lib.hid (show timesI r.kind r.many n = n by simp [timesI, h1])
    clear h1 hm
    go_enter Tryz.func161, Tryz.ntmps161
    go_wp2_with fail
    go_ret
    exact ⟨ret_int HT.out.symm, hb⟩
  · have e1 : (r.kind == 1) = false := by simp [h1]
    by_cases h2 : r.kind = 2
    · have e2 : (r.kind == 2) = true := by simp [h2]
      have HT := Lib.hid (show timesI r.kind r.many n = (max n 0).tdiv r.many by simp [timesI, h2])
      have hm1 := hm h2
      have hmx : Int64 (max n 0) := by unfold Int64 at *; omega
      have hq := tdiv_64 hmx (show 0 < r.many by omega)
      obtain ⟨hq1, hq2⟩ := hq
      have hne : r.many ≠ 0 := by omega
      generalize hM : max n 0 = M at HT hq1 hq2
      clear h1 h2 hm hmx hn
      go_enter Tryz.func161, Tryz.ntmps161
      go_wp2_with fail
      go_ret
      exact ⟨ret_int HT.out.symm, hb⟩
    · have e2 : (r.kind == 2) = false := by simp [h2]
      by_cases h3 : r.kind = 3
      · have e3 : (r.kind == 3) = true := by simp [h3]
        have HT := Lib.hid (show timesI r.kind r.many n = onceI (decide (r.many ≤ n)) by simp [timesI, h3])
        clear h1 h2 h3 hm
        go_enter Tryz.func161, Tryz.ntmps161
        go_wp2_with fail
        refine (once_calls _ _).mono ?_
        rintro e w' ⟨rfl, rfl⟩
        go_wp2_with fail
        go_ret
        exact ⟨ret_int HT.out.symm, hb⟩
      · have e3 : (r.kind == 3) = false := by simp [h3]
        have HT := Lib.hid (show timesI r.kind r.many n = onceI (n == 0) by simp [timesI, h1, h2, h3])
        clear h1 h2 h3 hm
        go_enter Tryz.func161, Tryz.ntmps161
        go_wp2_with fail
        refine (once_calls _ _).mono ?_
        rintro e w' ⟨rfl, rfl⟩
        go_wp2_with fail
        go_ret
        exact ⟨ret_int HT.out.symm, hb⟩
end Go.Proofs.YthlfjfmlmcoihaaGreat
/- A scorer found by name, on both sides. -/
namespace Go.Proofs.YthlfjfmlmcoihaaGreat
open Go.RowKit

theorem scs_at {w : World} {lo : Nat} {v : Value} {ts : List ScD} (h : Scs w lo v ts) :
    (v = .slice none 0 0 ∧ ts = []) ∨ ∃ g off cap, v = .slice (some ⟨g, off, none⟩) ts.length cap ∧ lo ≤ g ∧ g < w.heap.size ∧ ts.length ≤ 1000000 ∧
      ∀ (i : Nat) (c : ScD), ts[i]? = some c → ∃ x, w.cell? ⟨g, off + i * 5, none⟩ = some (.string c.who) ∧ w.cell? ⟨g, off + i * 5 + 1, none⟩ = some x ∧ w.cell? ⟨g, off + i * 5 + 2, none⟩ = some (.int .i64 c.num) ∧ w.cell? ⟨g, off + i * 5 + 3, none⟩ = some (.int .i64 c.den) ∧ w.cell? ⟨g, off + i * 5 + 4, none⟩ = some (.bool c.played) ∧ Strs w lo x c.pos := by
  rcases NRows.at h with h | ⟨g, off, cap, e1, e2, e3, e4, hc⟩
  · exact .inl h
  · refine .inr ⟨g, off, cap, e1, e2, e3, e4, fun i c hi => ?_⟩
    obtain ⟨x, h1, h2⟩ := hc i c hi
    exact ⟨x, h1 0 _ rfl, h1 1 _ rfl, h1 2 _ rfl, h1 3 _ rfl, h1 4 _ rfl, h2⟩
theorem sc_of {ps : List ByteArray} {ts : List ScD} (h : ∀ i : Nat, ps[i]? = ts[i]?.map ScD.who) {i : Nat} (hi : i < ps.length) : ∃ t, ts[i]? = some t := by
  have := h i
  rw [List.getElem?_eq_getElem hi] at this
  cases ht : ts[i]? with
  | none => rw [ht] at this; simp at this
  | some t => exact ⟨t, rfl⟩
set_option maxRecDepth 100000 in
set_option maxHeartbeats 400000 in
theorem findc_calls (t : ScD) (xa : Option Addr) (xn xc : Nat) (who : ByteArray) (w : World) :
    Calls Tryz.prog 104 #[.agg #[.string t.who, .slice xa xn xc, .int .i64 t.num, .int .i64 t.den, .bool t.played], .string who] w (IntBelow (cmpS t.who who) w) := by
  go_enter Tryz.func104, Tryz.ntmps104
  go_wp2_with fail
  refine (strCompare_calls t.who who _).mono ?_
  rintro e w' ⟨rfl, rfl⟩
  rw [cmpS_eq]
  go_wp2_with fail
  go_ret
  exact ⟨rfl, below_alloc w _⟩

set_option maxRecDepth 100000 in
set_option maxHeartbeats 1000000 in
theorem searchSc_calls (lo : Nat) (who : ByteArray) (v : Value) (ts : List ScD) (w : World) (hp : Scs w lo v ts) :
    Calls Tryz.prog 103 #[v, .string who, .func (.func 104) #[] #[]] w (Found (ts.map ScD.who) who w) := by
  rcases scs_at hp with ⟨rfl, rfl⟩ | ⟨g, off, cap, rfl, _, hg, hn, hcell⟩
  · clear hp
    go_enter Tryz.func103, Tryz.ntmps103
    go_wp2
    refine wp_loop_rounds 1 ?_
    rw [rounds_succ]
    go_wp2
    go_ret2
    exact ⟨rfl, Below.refl _ _⟩
  · clear hp
    obtain ⟨ps, hps⟩ : ∃ ps, ps = ts.map ScD.who := ⟨_, rfl⟩
    have hpl : ts.length = ps.length := by rw [hps]; simp
    have Hpt := Lib.hid (show ∀ i : Nat, ps[i]? = ts[i]?.map ScD.who from fun i => by rw [hps]; simp)
    have Hbs := Lib.hid hps
    rw [← hps, hpl]
    rw [hpl] at hn
    clear hps hpl
    go_enter Tryz.func103, Tryz.ntmps103
    go_wp2_with fail
    go_loopw [9, 10] (fun a b wr => ∃ i j : Nat, i ≤ j ∧ j ≤ ps.length ∧ a = .int .i64 i ∧ b = .int .i64 j ∧ Below w.heap.size w wr ∧ Hid (∃ f, bsI ps who = bs ps who f i j ∧ j - i ≤ f)) (fun a b _ => (intOf b).toNat - (intOf a).toNat)
    case atStart => exact ⟨0, ps.length, by omega, by omega, rfl, rfl, Below.refl _ _, Lib.hid ⟨ps.length, rfl, by omega⟩⟩
    case round =>
      obtain ⟨i, j, hij, hj, rfl, rfl, hb, Hf⟩ := hrel
      by_cases hlt : i < j
      · have hh : (i + j) / 2 < ps.length := by omega
        obtain ⟨p, hpt⟩ : ∃ p, ts[(i + j) / 2]? = some p := sc_of Hpt.out hh
        have Hk := Lib.hid (show keyAt ps ((i + j) / 2) = p.who from keyAt_some (by rw [Hpt.out, hpt]; rfl))
        obtain ⟨x, h0, h1, h2, h3, h4, hx⟩ := hcell _ p hpt
        obtain ⟨xa, xc, rfl⟩ := strs_shape hx
        have g0 := below_cell hb h0
        have g1 := below_cell hb h1
        have g2 := below_cell hb h2
        have g3 := below_cell hb h3
        have g4 := below_cell hb h4
        clear hpt h0 h1 h2 h3 h4 hcell hx
        go_wp2_with fail
        refine (findc_calls p xa p.pos.length xc who _).mono ?_
        rintro e w' ⟨rfl, hb'⟩
        have hb2 := hb.trans (hb'.mono hb.size)
        cases hl : ltS p.who who
        · have e1 : decide (cmpS p.who who < 0) = false := by rw [cmpS_neg, hl]
          have Hf' := Lib.hid (show ∃ f, bsI ps who = bs ps who f i ((i + j) / 2) ∧ (i + j) / 2 - i ≤ f by
            obtain ⟨f, h1, h2⟩ := Hf.out
            obtain ⟨f', h3, h4⟩ := bs_right hlt h2 (by rw [Hk.out]; exact hl)
            exact ⟨f', h1.trans h3, h4⟩)
          clear hl
          go_wp2_with fail
          go_roundw
          case rel => exact ⟨i, (i + j) / 2, by omega, by omega, rfl, by go_num, hb2, Hf'⟩
          case measure => simp [intOf]; omega
        · have e1 : decide (cmpS p.who who < 0) = true := by rw [cmpS_neg, hl]
          have Hf' := Lib.hid (show ∃ f, bsI ps who = bs ps who f ((i + j) / 2 + 1) j ∧ j - ((i + j) / 2 + 1) ≤ f by
            obtain ⟨f, h1, h2⟩ := Hf.out
            obtain ⟨f', h3, h4⟩ := bs_left hlt h2 (by rw [Hk.out]; exact hl)
            exact ⟨f', h1.trans h3, h4⟩)
          clear hl
          go_wp2_with fail
          go_roundw
          case rel => exact ⟨(i + j) / 2 + 1, j, by omega, by omega, by go_num, rfl, hb2, Hf'⟩
          case measure => simp [intOf]; omega
      · obtain rfl : i = j := by omega
        have HI := Lib.hid (show bsI ps who = i by
          obtain ⟨f, h1, _⟩ := Hf.out
          rw [h1, bs_end (by omega)])
        clear hlt hij
        by_cases hin : i < ps.length
        · obtain ⟨p, hpt⟩ : ∃ p, ts[i]? = some p := sc_of Hpt.out hin
          have Hk := Lib.hid (show keyAt ps i = p.who from keyAt_some (by rw [Hpt.out, hpt]; rfl))
          obtain ⟨x, h0, h1, h2, h3, h4, hx⟩ := hcell _ p hpt
          obtain ⟨xa, xc, rfl⟩ := strs_shape hx
          have g0 := below_cell hb h0
          have g1 := below_cell hb h1
          have g2 := below_cell hb h2
          have g3 := below_cell hb h3
          have g4 := below_cell hb h4
          clear hpt h0 h1 h2 h3 h4 hcell hx
          go_wp2_with fail
          refine (findc_calls p xa p.pos.length xc who _).mono ?_
          rintro e w' ⟨rfl, hb'⟩
          have hb2 := hb.trans (hb'.mono hb.size)
          have Hq := Lib.hid (show (cmpS p.who who == 0) = knownB ps who by
            unfold knownB
            rw [HI.out, Hk.out]
            simp only [hin, decide_true, Bool.true_and]
            exact cmpS_zero _ _)
          have Hq' := Lib.hid (show (cmpS p.who who == 0) = true ∨ (cmpS p.who who == 0) = false by cases (cmpS p.who who == 0) <;> simp)
          rcases Hq'.out with hq | hq
          · go_wp2_with fail
            go_ret2
            refine ⟨?_, hb2⟩
            rw [HI.out, ← Hq.out, hq]; rfl
          · go_wp2_with fail
            go_ret2
            refine ⟨?_, hb2⟩
            rw [HI.out, ← Hq.out, hq]; rfl
        · have Hq := Lib.hid (show knownB ps who = false by unfold knownB; rw [HI.out]; simp [hin])
          go_wp2_with fail
          go_ret2
          refine ⟨?_, hb⟩
          rw [HI.out, Hq.out]; rfl

theorem strs_nilF (w : World) (lo : Nat) : Strs w lo (.slice none 0 0) [] := ⟨by simp, by simp, .inl ⟨rfl, rfl⟩⟩
theorem below_set5 {b X : Nat} {w w' : World} (h : Below b w w') (hX : b ≤ X) (a0 a1 a2 a3 a4 : Value) : Below b w (((((w'.setCell ⟨X, 0, none⟩ a0).setCell ⟨X, 1, none⟩ a1).setCell ⟨X, 2, none⟩ a2).setCell ⟨X, 3, none⟩ a3).setCell ⟨X, 4, none⟩ a4) :=
  ((((h.setCell (p := ⟨X, 0, none⟩) hX _).setCell (p := ⟨X, 1, none⟩) hX _).setCell (p := ⟨X, 2, none⟩) hX _).setCell (p := ⟨X, 3, none⟩) hX _).setCell (p := ⟨X, 4, none⟩) hX _
def zeroC : ScD := ⟨⟨#[]⟩, [], 0, 0, false⟩
/-- Who is found by a name: nobody has the empty one. -/
def fndC (xs : List ScD) (k : ByteArray) : ScD := if knownB (xs.map ScD.who) k then xs[bsI (xs.map ScD.who) k]?.getD zeroC else zeroC
set_option maxRecDepth 100000 in
set_option maxHeartbeats 2000000 in
theorem find_calls (lo : Nat) (v : Value) (xs : List ScD) (k : ByteArray) (w : World) (hv : Scs w lo v xs) (hlo : lo ≤ w.heap.size) :
    Calls Tryz.prog 56 #[v, .string k] w fun e w' => ∃ x, e = .returned (.tuple #[.agg #[.string (fndC xs k).who, x, .int .i64 (fndC xs k).num, .int .i64 (fndC xs k).den, .bool (fndC xs k).played], .bool (knownB (xs.map ScD.who) k)]) ∧ Strs w' lo x (fndC xs k).pos ∧ Below w.heap.size w w' := by
  obtain ⟨W, hW⟩ : ∃ W, W = w.alloc (.cells #[.string ⟨#[]⟩, .slice none 0 0, .int .i64 0, .int .i64 0, .bool false] 83) := ⟨_, rfl⟩
  have hwW : Below w.heap.size w W := by rw [hW]; exact below_alloc w _
  have hx : W.heap[w.heap.size]? = some (.cells #[.string ⟨#[]⟩, .slice none 0 0, .int .i64 0, .int .i64 0, .bool false] 83 (0, 0)) := by rw [hW]; exact heap_alloc_new w _
  have hvW := NRows.below hv hwW
  have C := Lib.hid (searchSc_calls lo k v xs W hvW)
  have HV := Lib.hid hv
  obtain ⟨a, c, rfl⟩ := NRows.shape hv
  have HF0 := Lib.hid (show knownB (xs.map ScD.who) k = false → fndC xs k = zeroC from fun h => by unfold fndC; rw [h]; rfl)
  have HF1 := Lib.hid (show knownB (xs.map ScD.who) k = true → ∃ i, bsI (xs.map ScD.who) k = i ∧ i < xs.length ∧ xs[i]? = some (fndC xs k) from fun h => by
    have hl := known_lt h
    rw [List.length_map] at hl
    refine ⟨_, rfl, hl, ?_⟩
    unfold fndC
    rw [h, if_pos rfl, List.getElem?_eq_getElem hl]; rfl)
  have HW := Lib.hid hW
  have Hx := Lib.hid hx
  generalize fndC xs k = F at HF0 HF1 ⊢
  generalize hK : knownB (xs.map ScD.who) k = K at HF0 HF1 ⊢
  clear hv hvW hW hx
  unfold Found at C
  rw [hK] at C
  clear hK
  go_enter Tryz.func56, Tryz.ntmps56
  go_upto_region 1 with fail
  rw [← HW.out]
  clear HW
  go_wp2_with fail
  refine C.out.mono ?_
  rintro e w1 ⟨rfl, hb1⟩
  have hb01 := hwW.trans (hb1.mono hwW.size)
  have Hx1 := Lib.hid (cells_later Hx.out hb1)
  cases K
  · have hF := HF0.out rfl
    subst hF
    have hx1 := Hx1.out
    have x0 := cell_at hx1 0 rfl
    have x1 := cell_at hx1 1 rfl
    have x2 := cell_at hx1 2 rfl
    have x3 := cell_at hx1 3 rfl
    have x4 := cell_at hx1 4 rfl
    have f0 := free_of hx1 0
    have f1 := free_of hx1 1
    have f2 := free_of hx1 2
    have f3 := free_of hx1 3
    have f4 := free_of hx1 4
    clear C HF0 HF1 hx1
    go_wp2_with fail
    try simp only [Exit.inBlock, Exit.then]
    refine bodyPost_ret (v := .tuple #[.agg #[.string ⟨#[]⟩, .slice none 0 0, .int .i64 0, .int .i64 0, .bool false], .bool false]) ?_ rfl ⟨_, rfl, strs_nilF _ _, below_set5 hb01 (Nat.le_refl _) _ _ _ _ _⟩
    rw [results_cell_tmp rfl]
    go_simp
  · obtain ⟨i, hi, hil, hF⟩ := HF1.out rfl
    rw [hi]
    rcases scs_at HV.out with ⟨_, h0⟩ | ⟨g, off, cap, e, hlo', hg, hn, hc⟩
    · rw [h0] at hil; simp at hil
    simp only [Value.slice.injEq] at e
    obtain ⟨rfl, -, rfl⟩ := e
    obtain ⟨x, b0, b1, b2, b3, b4, hsx⟩ := hc i F hF
    have c0 := below_cell hb01 b0
    have c1 := below_cell hb01 b1
    have c2 := below_cell hb01 b2
    have c3 := below_cell hb01 b3
    have c4 := below_cell hb01 b4
    have Hsx := Lib.hid hsx
    obtain ⟨xa, xc, rfl⟩ := strs_shape hsx
    have hx1 := Hx1.out
    have x0 := cell_at hx1 0 rfl
    have x1 := cell_at hx1 1 rfl
    have x2 := cell_at hx1 2 rfl
    have x3 := cell_at hx1 3 rfl
    have x4 := cell_at hx1 4 rfl
    have f0 := free_of hx1 0
    have f1 := free_of hx1 1
    have f2 := free_of hx1 2
    have f3 := free_of hx1 3
    have f4 := free_of hx1 4
    have hlt : (i : Int) < (xs.length : Int) := by omega
    clear C HF0 HF1 hx1 hc hF hi hsx b0 b1 b2 b3 b4
    go_wp2_with fail
    try simp only [Exit.inBlock, Exit.then]
    refine bodyPost_ret (v := .tuple #[.agg #[.string F.who, .slice xa F.pos.length xc, .int .i64 F.num, .int .i64 F.den, .bool F.played], .bool true]) ?_ rfl ⟨_, rfl, Hsx.out.below (below_set5 hb01 (Nat.le_refl _) _ _ _ _ _), below_set5 hb01 (Nat.le_refl _) _ _ _ _ _⟩
    rw [results_cell_tmp rfl]
    go_simp
end Go.Proofs.YthlfjfmlmcoihaaGreat
/- Did a scorer play; where a scorer is, on the reference's side. -/
namespace Go.Proofs.YthlfjfmlmcoihaaGreat
open Go.RowKit

set_option maxRecDepth 100000 in
set_option maxHeartbeats 1000000 in
theorem played_calls (lo : Nat) (v : Value) (xs : List ScD) (k : ByteArray) (w : World) (hv : Scs w lo v xs) (hlo : lo ≤ w.heap.size) :
    Calls Tryz.prog 94 #[v, .string k] w (BoolIs (fndC xs k).played w) := by
  have C := Lib.hid (find_calls lo v xs k w hv hlo)
  obtain ⟨a, c, rfl⟩ := NRows.shape hv
  generalize knownB (xs.map ScD.who) k = K at C
  generalize fndC xs k = F at C ⊢
  clear hv
  go_enter Tryz.func94, Tryz.ntmps94
  go_wp2_with fail
  refine C.out.mono ?_
  rintro e w1 ⟨x, rfl, hx, hb⟩
  obtain ⟨xa, xc, rfl⟩ := strs_shape hx
  clear C hx
  go_wp2_with fail
  go_ret
  exact ⟨rfl, below_step hb (below_alloc w1 _)⟩
/-- What a look for the first one gives. -/
def IdxFirstC (p : ScD → Bool) (fs : List ScD) (w : World) (e : Ending) (w' : World) : Prop :=
  ((e = .returned (.int .i64 (-1)) ∧ ∀ f ∈ fs, p f = false) ∨ ∃ i f, e = .returned (.int .i64 ((i : Nat) : Int)) ∧ fs[i]? = some f ∧ p f = true ∧ ∀ j g, j < i → fs[j]? = some g → p g = false) ∧ Below w.heap.size w w'
set_option maxRecDepth 100000 in
set_option maxHeartbeats 1000000 in
theorem indexSc_calls (g : Nat) (caps : Array Value) (p : ScD → Bool) (lo : Nat) (v : Value) (fs : List ScD) (w : World) (hv : Scs w lo v fs) (eg : ∀ args w, (callFunc g args).run Tryz.prog w = .ok (.enter g args) w)
    (hp : ∀ (W : World) (f : ScD) (xa : Option Addr) (xc : Nat), Below w.heap.size w W → Calls Tryz.prog g (#[.agg #[.string f.who, .slice xa f.pos.length xc, .int .i64 f.num, .int .i64 f.den, .bool f.played]] ++ caps) W (BoolIs (p f) W)) :
    Calls Tryz.prog 119 #[v, .func (.func g) #[] caps] w (IdxFirstC p fs w) := by
  have Hp := Lib.hid hp
  clear hp
  rcases scs_at hv with ⟨rfl, rfl⟩ | ⟨gg, off, cap, rfl, hlo, hg, hn, hcell⟩
  · clear hv
    go_enter Tryz.func119, Tryz.ntmps119
    go_wp2_with fail
    refine wp_loop_rounds 1 ?_
    rw [rounds_succ]
    go_wp2_with fail
    go_ret
    exact ⟨.inl ⟨rfl, by simp⟩, Below.refl _ _⟩
  · have Hc := Lib.hid hcell
    clear hv hcell
    go_enter Tryz.func119, Tryz.ntmps119
    go_wp2_with fail
    go_loopw [8] (fun i wr => ∃ k : Nat, k ≤ fs.length ∧ i = .int .i64 k ∧ Hid (∀ j g, j < k → fs[j]? = some g → p g = false) ∧ Below w.heap.size w wr) (fun i _ => fs.length - (intOf i).toNat)
    case atStart => exact ⟨0, Nat.zero_le _, rfl, Lib.hid fun _ _ h => by omega, Below.refl _ _⟩
    case round =>
      obtain ⟨k, hk, rfl, H0, hb⟩ := hrel
      by_cases hlt : k < fs.length
      · obtain ⟨f, hf⟩ : ∃ f, fs[k]? = some f := ⟨fs[k], List.getElem?_eq_getElem hlt⟩
        obtain ⟨x, q0, q1, q2, q3, q4, hx⟩ := Hc.out k f hf
        obtain ⟨xa, xc, rfl⟩ := strs_shape hx
        have g0 := below_cell hb q0
        have g1 := below_cell hb q1
        have g2 := below_cell hb q2
        have g3 := below_cell hb q3
        have g4 := below_cell hb q4
        have Hf := Lib.hid hf
        clear hf q0 q1 q2 q3 q4 hx
        go_wp2_with fail
        refine (Hp.out _ f xa xc hb).mono ?_
        rintro e w1 ⟨rfl, hb1⟩
        have hb2 := below_step hb hb1
        clear g0 g1 g2 g3 g4
        cases hpf : p f
        · have H1 : Hid (∀ j g, j < k + 1 → fs[j]? = some g → p g = false) := Lib.hid fun j g hj hg' => by
            rcases Nat.lt_succ_iff_lt_or_eq.1 hj with h | rfl
            · exact H0.out j g h hg'
            · rw [Hf.out] at hg'; cases hg'; exact hpf
          clear hpf
          go_wp2_with fail
          go_roundw
          case rel => exact ⟨k + 1, by omega, by go_num, H1, hb2⟩
          case measure => simp [intOf]; omega
        · have Hq := Lib.hid hpf
          clear hpf
          go_wp2_with fail
          go_ret
          exact ⟨.inr ⟨k, f, rfl, Hf.out, Hq.out, H0.out⟩, hb2⟩
      · obtain rfl : k = fs.length := by omega
        go_wp2_with fail
        go_ret
        refine ⟨.inl ⟨rfl, fun f hf => ?_⟩, hb⟩
        obtain ⟨i, hi⟩ := List.getElem?_of_mem hf
        exact H0.out i f (List.getElem?_eq_some_iff.1 hi).1 hi

theorem scorerAt1_calls (f : ScD) (k : ByteArray) (xa : Option Addr) (n c X : Nat) (w : World) (hX : w.cell? ⟨X, 0, none⟩ = some (.string k)) :
    Calls Tryz.prog 120 #[.agg #[.string f.who, .slice xa n c, .int .i64 f.num, .int .i64 f.den, .bool f.played], .pointer (some ⟨X, 0, none⟩)] w (BoolIs (beqS f.who k) w) := by
  go_enter Tryz.func120, Tryz.ntmps120
  have hX1 := below_cell (below_alloc w (.cells #[.string f.who, .slice xa n c, .int .i64 f.num, .int .i64 f.den, .bool f.played] 83)) hX
  go_wp2_with fail
  go_ret
  exact ⟨ret_bool (by unfold beqS; rfl), below_alloc w _⟩
set_option maxHeartbeats 1000000 in
theorem scorerAt_calls (lo : Nat) (v : Value) (xs : List ScD) (k : ByteArray) (w : World) (hv : Scs w lo v xs) :
    Calls Tryz.prog 66 #[v, .string k] w (IdxFirstC (fun c => beqS c.who k) xs w) := by
  have hb0 := below_alloc w (.cells #[.string k] 9)
  have x0 : (w.alloc (.cells #[.string k] 9)).cell? ⟨w.heap.size, 0, none⟩ = some (.string k) := by rw [World.cell?_alloc_at _ _ _ _ rfl]; rfl
  have C := Lib.hid (indexSc_calls 120 #[.pointer (some ⟨w.heap.size, 0, none⟩)] (fun c => beqS c.who k) lo v xs _ (NRows.below hv hb0) (by intro args w; go_simp) (fun W f xa xc hb => scorerAt1_calls f k xa _ xc w.heap.size W (below_cell hb x0)))
  obtain ⟨a, c, rfl⟩ := NRows.shape hv
  clear hv x0
  go_enter Tryz.func66, Tryz.ntmps66
  go_wp2_with fail
  refine C.out.mono ?_
  rintro e w1 ⟨⟨rfl, h0⟩ | ⟨i, f, rfl, hf⟩, hb⟩
  · clear C
    go_wp2_with fail
    go_ret
    exact ⟨.inl ⟨rfl, h0⟩, below_step hb0 hb⟩
  · clear C
    go_wp2_with fail
    go_ret
    exact ⟨.inr ⟨i, f, rfl, hf⟩, below_step hb0 hb⟩
end Go.Proofs.YthlfjfmlmcoihaaGreat
/- Where names rise, whoever is found by halves is the one of that name. -/
namespace Go.Proofs.YthlfjfmlmcoihaaGreat
open Go.RowKit

theorem keyAt_who {xs : List ScD} {i : Nat} {c : ScD} (h : xs[i]? = some c) : keyAt (xs.map ScD.who) i = c.who := keyAt_some (by rw [List.getElem?_map, h]; rfl)
theorem fnd_at {xs : List ScD} {k : ByteArray} (hs : SortedK (xs.map ScD.who)) {i : Nat} {c : ScD} (hi : xs[i]? = some c) (hk : c.who = k) : knownB (xs.map ScD.who) k = true ∧ bsI (xs.map ScD.who) k = i ∧ fndC xs k = c := by
  have hK : knownB (xs.map ScD.who) k = true := by
    rw [known_eq hs]
    unfold hasK
    rw [List.any_eq_true]
    exact ⟨c.who, List.mem_map_of_mem (List.mem_of_getElem? hi), beqS_iff.2 hk⟩
  have hil : i < xs.length := (List.getElem?_eq_some_iff.1 hi).1
  have hj := known_lt hK
  have hkj : keyAt (xs.map ScD.who) (bsI (xs.map ScD.who) k) = k := by
    have h := hK
    unfold knownB at h
    rw [Bool.and_eq_true] at h
    exact beqS_iff.1 h.2
  have hki : keyAt (xs.map ScD.who) i = k := (keyAt_who hi).trans hk
  have hb : bsI (xs.map ScD.who) k = i := by
    rcases Nat.lt_trichotomy (bsI (xs.map ScD.who) k) i with h | h | h
    · have := hs _ _ h (by rw [List.length_map]; exact hil)
      rw [hkj, hki, ltS_irrefl] at this; cases this
    · exact h
    · have := hs _ _ h hj
      rw [hkj, hki, ltS_irrefl] at this; cases this
  refine ⟨hK, hb, ?_⟩
  unfold fndC
  rw [hK, if_pos rfl, hb, hi]; rfl
theorem fnd_none {xs : List ScD} {k : ByteArray} (hs : SortedK (xs.map ScD.who)) (h : ∀ c ∈ xs, beqS c.who k = false) : knownB (xs.map ScD.who) k = false ∧ fndC xs k = zeroC := by
  have hK : knownB (xs.map ScD.who) k = false := by
    rw [known_eq hs]
    unfold hasK
    rw [List.any_eq_false]
    intro p hp
    obtain ⟨c, hc, rfl⟩ := List.mem_map.1 hp
    rw [h c hc]; simp
  exact ⟨hK, by unfold fndC; rw [hK]; rfl⟩
end Go.Proofs.YthlfjfmlmcoihaaGreat
/- Fills in memory; who is in a slot. -/
namespace Go.Proofs.YthlfjfmlmcoihaaGreat
open Go.RowKit

structure FiD where
  slot : ByteArray
  who : ByteArray
def fiRow (f : FiD) : List Value := [.string f.slot, .string f.who]
def Fis (w : World) (lo : Nat) (v : Value) (fs : List FiD) : Prop := Rows w 49 lo 2 v (fs.map fiRow)
theorem Fis.below {w w' : World} {lo : Nat} {v : Value} {fs : List FiD} (h : Fis w lo v fs) (hb : Below w.heap.size w w') : Fis w' lo v fs := Rows.below h hb
theorem Fis.other {w w' : World} {lo B : Nat} {v : Value} {fs : List FiD} (h : Fis w lo v fs) (hg : w.grownBy w' (some B)) (hB : B < lo) : Fis w' lo v fs := Rows.other h hg hB
theorem fis_at {w : World} {lo : Nat} {v : Value} {ts : List FiD} (h : Fis w lo v ts) :
    (v = .slice none 0 0 ∧ ts = []) ∨ ∃ g off cap, v = .slice (some ⟨g, off, none⟩) ts.length cap ∧ lo ≤ g ∧ g < w.heap.size ∧ ts.length ≤ 1000000 ∧
      ∀ (i : Nat) (t : FiD), ts[i]? = some t → w.cell? ⟨g, off + i * 2, none⟩ = some (.string t.slot) ∧ w.cell? ⟨g, off + i * 2 + 1, none⟩ = some (.string t.who) := by
  rcases rows_at h with ⟨e1, e2⟩ | ⟨g, off, cap, e1, e2, e3, hc⟩
  · exact .inl ⟨e1, by simpa using e2⟩
  · refine .inr ⟨g, off, cap, by simpa using e1, e2, e3, by simpa using h.small, fun i t ht => ?_⟩
    have hx : ∀ (j : Nat) (u : Value), (fiRow t)[j]? = some u → w.cell? ⟨g, off + i * 2 + j, none⟩ = some u := fun j u hu => hc i j u (by simpa [ht] using hu)
    exact ⟨hx 0 _ rfl, hx 1 _ rfl⟩
theorem fis_shape {w : World} {lo : Nat} {v : Value} {ts : List FiD} (h : Fis w lo v ts) : ∃ a c, v = .slice a ts.length c := by
  rcases fis_at h with ⟨rfl, rfl⟩ | ⟨g, off, cap, rfl, _⟩
  · exact ⟨none, 0, rfl⟩
  · exact ⟨_, _, rfl⟩
theorem fi_each (ts : List FiD) : ∀ r ∈ ts.map fiRow, r.length = 2 := by
  intro r hr
  obtain ⟨t, _, rfl⟩ := List.mem_map.1 hr
  rfl
theorem fis_of_owns {w : World} {base : Nat} {v : Value} {ts : List FiD} (h : w.ownsRow base 49 2 v ts.length (ts.map fiRow).flatten) (hs : ts.length ≤ 1000000) : Fis w base v ts :=
  Rows.of_owns (by simpa using h) (by simpa using hs) (fi_each ts)
/-- What a look for the first one gives. -/
def IdxFirstF (p : FiD → Bool) (fs : List FiD) (w : World) (e : Ending) (w' : World) : Prop :=
  ((e = .returned (.int .i64 (-1)) ∧ ∀ f ∈ fs, p f = false) ∨ ∃ i f, e = .returned (.int .i64 ((i : Nat) : Int)) ∧ fs[i]? = some f ∧ p f = true ∧ ∀ j g, j < i → fs[j]? = some g → p g = false) ∧ Below w.heap.size w w'
set_option maxRecDepth 100000 in
set_option maxHeartbeats 1000000 in
theorem indexFi_calls (g : Nat) (caps : Array Value) (p : FiD → Bool) (lo : Nat) (v : Value) (fs : List FiD) (w : World) (hv : Fis w lo v fs) (eg : ∀ args w, (callFunc g args).run Tryz.prog w = .ok (.enter g args) w)
    (hp : ∀ (W : World) (f : FiD), Below w.heap.size w W → Calls Tryz.prog g (#[.agg #[.string f.slot, .string f.who]] ++ caps) W (BoolIs (p f) W)) :
    Calls Tryz.prog 69 #[v, .func (.func g) #[] caps] w (IdxFirstF p fs w) := by
  have Hp := Lib.hid hp
  clear hp
  rcases fis_at hv with ⟨rfl, rfl⟩ | ⟨gg, off, cap, rfl, hlo, hg, hn, hcell⟩
  · clear hv
    go_enter Tryz.func69, Tryz.ntmps69
    go_wp2_with fail
    refine wp_loop_rounds 1 ?_
    rw [rounds_succ]
    go_wp2_with fail
    go_ret
    exact ⟨.inl ⟨rfl, by simp⟩, Below.refl _ _⟩
  · have Hc := Lib.hid hcell
    clear hv hcell
    go_enter Tryz.func69, Tryz.ntmps69
    go_wp2_with fail
    go_loopw [8] (fun i wr => ∃ k : Nat, k ≤ fs.length ∧ i = .int .i64 k ∧ Hid (∀ j g, j < k → fs[j]? = some g → p g = false) ∧ Below w.heap.size w wr) (fun i _ => fs.length - (intOf i).toNat)
    case atStart => exact ⟨0, Nat.zero_le _, rfl, Lib.hid fun _ _ h => by omega, Below.refl _ _⟩
    case round =>
      obtain ⟨k, hk, rfl, H0, hb⟩ := hrel
      by_cases hlt : k < fs.length
      · obtain ⟨f, hf⟩ : ∃ f, fs[k]? = some f := ⟨fs[k], List.getElem?_eq_getElem hlt⟩
        obtain ⟨q0, q1⟩ := Hc.out k f hf
        have g0 := below_cell hb q0
        have g1 := below_cell hb q1
        have Hf := Lib.hid hf
        clear hf q0 q1
        go_wp2_with fail
        refine (Hp.out _ f hb).mono ?_
        rintro e w1 ⟨rfl, hb1⟩
        have hb2 := below_step hb hb1
        clear g0 g1
        cases hpf : p f
        · have H1 : Hid (∀ j g, j < k + 1 → fs[j]? = some g → p g = false) := Lib.hid fun j g hj hg' => by
            rcases Nat.lt_succ_iff_lt_or_eq.1 hj with h | rfl
            · exact H0.out j g h hg'
            · rw [Hf.out] at hg'; cases hg'; exact hpf
          clear hpf
          go_wp2_with fail
          go_roundw
          case rel => exact ⟨k + 1, by omega, by go_num, H1, hb2⟩
          case measure => simp [intOf]; omega
        · have Hq := Lib.hid hpf
          clear hpf
          go_wp2_with fail
          go_ret
          exact ⟨.inr ⟨k, f, rfl, Hf.out, Hq.out, H0.out⟩, hb2⟩
      · obtain rfl : k = fs.length := by omega
        go_wp2_with fail
        go_ret
        refine ⟨.inl ⟨rfl, fun f hf => ?_⟩, hb⟩
        obtain ⟨i, hi⟩ := List.getElem?_of_mem hf
        exact H0.out i f (List.getElem?_eq_some_iff.1 hi).1 hi

/-- Is one of a list so? -/
theorem containsFi_calls (g : Nat) (caps : Array Value) (p : FiD → Bool) (lo : Nat) (v : Value) (fs : List FiD) (w : World) (hv : Fis w lo v fs) (eg : ∀ args w, (callFunc g args).run Tryz.prog w = .ok (.enter g args) w)
    (hp : ∀ (W : World) (f : FiD), Below w.heap.size w W → Calls Tryz.prog g (#[.agg #[.string f.slot, .string f.who]] ++ caps) W (BoolIs (p f) W)) :
    Calls Tryz.prog 18 #[v, .func (.func g) #[] caps] w (BoolIs (fs.any p) w) := by
  have C := Lib.hid (indexFi_calls g caps p lo v fs w hv eg hp)
  obtain ⟨a, c, rfl⟩ := fis_shape hv
  clear hv hp eg
  go_enter Tryz.func18, Tryz.ntmps18
  go_wp2_with fail
  refine C.out.mono ?_
  rintro e w1 ⟨⟨rfl, h0⟩ | ⟨i, f, rfl, hf, hpf, _⟩, hb⟩
  · have hr : fs.any p = false := by rw [List.any_eq_false]; intro x hx; rw [h0 x hx]; simp
    clear C h0
    go_wp2_with fail
    go_ret
    exact ⟨ret_bool (by rw [hr]), hb⟩
  · have hr : fs.any p = true := List.any_eq_true.2 ⟨f, List.mem_of_getElem? hf, hpf⟩
    clear C hf hpf
    go_wp2_with fail
    go_ret
    exact ⟨ret_bool (by rw [hr]), hb⟩
/-- Is a player in a slot? -/
def inF (fs : List FiD) (k : ByteArray) : Bool := fs.any fun f => beqS f.who k
theorem fielded1_calls (f : FiD) (k : ByteArray) (X : Nat) (w : World) (hX : w.cell? ⟨X, 0, none⟩ = some (.string k)) :
    Calls Tryz.prog 102 #[.agg #[.string f.slot, .string f.who], .pointer (some ⟨X, 0, none⟩)] w (BoolIs (beqS f.who k) w) := by
  go_enter Tryz.func102, Tryz.ntmps102
  have hX1 := below_cell (below_alloc w (.cells #[.string f.slot, .string f.who] 49)) hX
  go_wp2_with fail
  go_ret
  exact ⟨ret_bool (by unfold beqS; rfl), below_alloc w _⟩
set_option maxHeartbeats 1000000 in
theorem fielded_calls (lo : Nat) (v : Value) (fs : List FiD) (k : ByteArray) (w : World) (hv : Fis w lo v fs) :
    Calls Tryz.prog 55 #[v, .string k] w (BoolIs (inF fs k) w) := by
  have hb0 := below_alloc w (.cells #[.string k] 9)
  have x0 : (w.alloc (.cells #[.string k] 9)).cell? ⟨w.heap.size, 0, none⟩ = some (.string k) := by rw [World.cell?_alloc_at _ _ _ _ rfl]; rfl
  have C := Lib.hid (containsFi_calls 102 #[.pointer (some ⟨w.heap.size, 0, none⟩)] (fun f => beqS f.who k) lo v fs _ (hv.below hb0) (by intro args w; go_simp) (fun W f hb => fielded1_calls f k w.heap.size W (below_cell hb x0)))
  obtain ⟨a, c, rfl⟩ := fis_shape hv
  clear hv x0
  go_enter Tryz.func55, Tryz.ntmps55
  go_wp2_with fail
  refine C.out.mono ?_
  rintro e w1 ⟨rfl, hb⟩
  clear C
  go_wp2_with fail
  go_ret
  exact ⟨rfl, below_step hb0 hb⟩
end Go.Proofs.YthlfjfmlmcoihaaGreat
/- Slots looked through: IndexFunc and ContainsFunc with any predicate. -/
namespace Go.Proofs.YthlfjfmlmcoihaaGreat
open Go.RowKit

theorem sls_at {w : World} {lo : Nat} {v : Value} {ts : List SlD} (h : Sls w lo v ts) :
    (v = .slice none 0 0 ∧ ts = []) ∨ ∃ g off cap, v = .slice (some ⟨g, off, none⟩) ts.length cap ∧ lo ≤ g ∧ g < w.heap.size ∧ ts.length ≤ 1000000 ∧
      ∀ (i : Nat) (c : SlD), ts[i]? = some c → ∃ x, w.cell? ⟨g, off + i * 2, none⟩ = some (.string c.key) ∧ w.cell? ⟨g, off + i * 2 + 1, none⟩ = some x ∧ Strs w lo x c.pos := by
  rcases NRows.at h with h | ⟨g, off, cap, e1, e2, e3, e4, hc⟩
  · exact .inl h
  · refine .inr ⟨g, off, cap, e1, e2, e3, e4, fun i c hi => ?_⟩
    obtain ⟨x, h1, h2⟩ := hc i c hi
    exact ⟨x, h1 0 _ rfl, h1 1 _ rfl, h2⟩
/-- What a look for the first one gives. -/
def IdxFirstL (p : SlD → Bool) (fs : List SlD) (w : World) (e : Ending) (w' : World) : Prop :=
  ((e = .returned (.int .i64 (-1)) ∧ ∀ f ∈ fs, p f = false) ∨ ∃ i f, e = .returned (.int .i64 ((i : Nat) : Int)) ∧ fs[i]? = some f ∧ p f = true ∧ ∀ j g, j < i → fs[j]? = some g → p g = false) ∧ Below w.heap.size w w'
set_option maxRecDepth 100000 in
set_option maxHeartbeats 1000000 in
theorem indexSl_calls (g : Nat) (caps : Array Value) (p : SlD → Bool) (lo : Nat) (v : Value) (fs : List SlD) (w : World) (hv : Sls w lo v fs) (eg : ∀ args w, (callFunc g args).run Tryz.prog w = .ok (.enter g args) w)
    (hp : ∀ (W : World) (f : SlD) (xa : Option Addr) (xc : Nat), Below w.heap.size w W → Calls Tryz.prog g (#[.agg #[.string f.key, .slice xa f.pos.length xc]] ++ caps) W (BoolIs (p f) W)) :
    Calls Tryz.prog 116 #[v, .func (.func g) #[] caps] w (IdxFirstL p fs w) := by
  have Hp := Lib.hid hp
  clear hp
  rcases sls_at hv with ⟨rfl, rfl⟩ | ⟨gg, off, cap, rfl, hlo, hg, hn, hcell⟩
  · clear hv
    go_enter Tryz.func116, Tryz.ntmps116
    go_wp2_with fail
    refine wp_loop_rounds 1 ?_
    rw [rounds_succ]
    go_wp2_with fail
    go_ret
    exact ⟨.inl ⟨rfl, by simp⟩, Below.refl _ _⟩
  · have Hc := Lib.hid hcell
    clear hv hcell
    go_enter Tryz.func116, Tryz.ntmps116
    go_wp2_with fail
    go_loopw [8] (fun i wr => ∃ k : Nat, k ≤ fs.length ∧ i = .int .i64 k ∧ Hid (∀ j g, j < k → fs[j]? = some g → p g = false) ∧ Below w.heap.size w wr) (fun i _ => fs.length - (intOf i).toNat)
    case atStart => exact ⟨0, Nat.zero_le _, rfl, Lib.hid fun _ _ h => by omega, Below.refl _ _⟩
    case round =>
      obtain ⟨k, hk, rfl, H0, hb⟩ := hrel
      by_cases hlt : k < fs.length
      · obtain ⟨f, hf⟩ : ∃ f, fs[k]? = some f := ⟨fs[k], List.getElem?_eq_getElem hlt⟩
        obtain ⟨x, q0, q1, hx⟩ := Hc.out k f hf
        obtain ⟨xa, xc, rfl⟩ := strs_shape hx
        have g0 := below_cell hb q0
        have g1 := below_cell hb q1
        have Hf := Lib.hid hf
        clear hf q0 q1 hx
        go_wp2_with fail
        refine (Hp.out _ f xa xc hb).mono ?_
        rintro e w1 ⟨rfl, hb1⟩
        have hb2 := below_step hb hb1
        clear g0 g1
        cases hpf : p f
        · have H1 : Hid (∀ j g, j < k + 1 → fs[j]? = some g → p g = false) := Lib.hid fun j g hj hg' => by
            rcases Nat.lt_succ_iff_lt_or_eq.1 hj with h | rfl
            · exact H0.out j g h hg'
            · rw [Hf.out] at hg'; cases hg'; exact hpf
          clear hpf
          go_wp2_with fail
          go_roundw
          case rel => exact ⟨k + 1, by omega, by go_num, H1, hb2⟩
          case measure => simp [intOf]; omega
        · have Hq := Lib.hid hpf
          clear hpf
          go_wp2_with fail
          go_ret
          exact ⟨.inr ⟨k, f, rfl, Hf.out, Hq.out, H0.out⟩, hb2⟩
      · obtain rfl : k = fs.length := by omega
        go_wp2_with fail
        go_ret
        refine ⟨.inl ⟨rfl, fun f hf => ?_⟩, hb⟩
        obtain ⟨i, hi⟩ := List.getElem?_of_mem hf
        exact H0.out i f (List.getElem?_eq_some_iff.1 hi).1 hi

/-- Is one of a list so? -/
theorem containsSl_calls (g : Nat) (caps : Array Value) (p : SlD → Bool) (lo : Nat) (v : Value) (fs : List SlD) (w : World) (hv : Sls w lo v fs) (eg : ∀ args w, (callFunc g args).run Tryz.prog w = .ok (.enter g args) w)
    (hp : ∀ (W : World) (f : SlD) (xa : Option Addr) (xc : Nat), Below w.heap.size w W → Calls Tryz.prog g (#[.agg #[.string f.key, .slice xa f.pos.length xc]] ++ caps) W (BoolIs (p f) W)) :
    Calls Tryz.prog 62 #[v, .func (.func g) #[] caps] w (BoolIs (fs.any p) w) := by
  have C := Lib.hid (indexSl_calls g caps p lo v fs w hv eg hp)
  obtain ⟨a, c, rfl⟩ := NRows.shape hv
  clear hv hp eg
  go_enter Tryz.func62, Tryz.ntmps62
  go_wp2_with fail
  refine C.out.mono ?_
  rintro e w1 ⟨⟨rfl, h0⟩ | ⟨i, f, rfl, hf, hpf, _⟩, hb⟩
  · have hr : fs.any p = false := by rw [List.any_eq_false]; intro x hx; rw [h0 x hx]; simp
    clear C h0
    go_wp2_with fail
    go_ret
    exact ⟨ret_bool (by rw [hr]), hb⟩
  · have hr : fs.any p = true := List.any_eq_true.2 ⟨f, List.mem_of_getElem? hf, hpf⟩
    clear C hf hpf
    go_wp2_with fail
    go_ret
    exact ⟨ret_bool (by rw [hr]), hb⟩
end Go.Proofs.YthlfjfmlmcoihaaGreat
namespace Go.Proofs.YthlfjfmlmcoihaaGreat
open Go.RowKit

def lfE (need : Bool) (ks : List ByteArray) : Int := if need && decide (ks.length = 0) then 8 else eachE ks.length 10 (risF ks)
set_option maxRecDepth 100000 in
set_option maxHeartbeats 1000000 in
theorem listFault_calls (need : Bool) (lo : Nat) (v : Value) (ks : List ByteArray) (w : World) (hv : Strs w lo v ks) (hk : ∀ k ∈ ks, k.size ≤ 1000) (hn : ks.length ≤ 1000000) :
    Calls Tryz.prog 64 #[v, .bool need] w fun e w' => e = .returned (.int .i64 (lfE need ks)) ∧ w = w' := by
  obtain ⟨a, c, rfl⟩ := strs_shape' hv
  have HC := Lib.hid (risingR_calls lo _ ks w hv hk hn)
  clear hv hk
  by_cases h10 : 10 < ks.length
  · have HE := Lib.hid (show lfE need ks = 2 by
      unfold lfE eachE
      rw [decide_eq_false (show ¬ ks.length = 0 by omega), if_pos (show (10 : Int) < ks.length by omega)]
      cases need <;> rfl)
    cases need <;>
    · go_enter Tryz.func64, Tryz.ntmps64
      go_wp2_with fail
      go_ret
      exact ⟨ret_int HE.out.symm, rfl⟩
  · have HX := Lib.hid (show eachE ks.length 10 (risF ks) = errsTo (risF ks) ks.length by unfold eachE; rw [if_neg (by omega)]; rfl)
    cases need
    · have HE := Lib.hid (show lfE false ks = errsTo (risF ks) ks.length by rw [← HX.out]; rfl)
      go_enter Tryz.func64, Tryz.ntmps64
      go_wp2_with fail
      refine HC.out.mono ?_
      rintro e w' ⟨rfl, rfl⟩
      go_wp2_with fail
      go_ret
      exact ⟨ret_int HE.out.symm, rfl⟩
    · by_cases h0 : ks.length = 0
      · have HE := Lib.hid (show lfE true ks = 8 by unfold lfE; rw [decide_eq_true h0]; rfl)
        have h0' : ((ks.length : Int) == 0) = true := by rw [beq_iff_eq]; omega
        go_enter Tryz.func64, Tryz.ntmps64
        go_wp2_with fail
        go_ret
        exact ⟨ret_int HE.out.symm, rfl⟩
      · have HE := Lib.hid (show lfE true ks = errsTo (risF ks) ks.length by
          rw [← HX.out]; unfold lfE; rw [decide_eq_false h0]; rfl)
        have h0' : ((ks.length : Int) == 0) = false := by rw [beq_eq_false_iff_ne]; omega
        clear h0
        go_enter Tryz.func64, Tryz.ntmps64
        go_wp2_with fail
        refine HC.out.mono ?_
        rintro e w' ⟨rfl, rfl⟩
        go_wp2_with fail
        go_ret
        exact ⟨ret_int HE.out.symm, rfl⟩

theorem lt_empty {s : ByteArray} (h : keyB s = true) : ltS ⟨#[]⟩ s = true := by
  unfold keyB at h
  simp only [Bool.and_eq_true, decide_eq_true_eq] at h
  unfold ltS
  rw [ByteArray.toList_eq, ByteArray.toList_eq]
  cases hs : s.data.toList with
  | nil =>
    have := h.1.1.1
    have e : s.size = 0 := by
      show s.data.size = 0
      rw [← Array.length_toList, hs]; rfl
    omega
  | cons => rfl
end Go.Proofs.YthlfjfmlmcoihaaGreat
