/- Where names rise, whoever is found by halves is the one of that name. -/
import Derived.Test.YthlfjfmlmcoihaaGreatMgap
import Derived.Test.YthlfjfmlmcoihaaGreatMgar
/- A scorer found by name, on both sides. -/
namespace Go.Proofs.YthlfjfmlmcoihaaGreat
open Go.RowKit

theorem scs_at {w : World} {lo : Nat} {v : Value} {ts : List ScD} (h : Scs w lo v ts) :
    (v = .slice none 0 0 ∧ ts = []) ∨ ∃ g off cap, v = .slice (some ⟨g, off, none⟩) ts.length cap ∧ lo ≤ g ∧ g < w.heap.size ∧ ts.length ≤ 1000000 ∧
      ∀ (i : Nat) (c : ScD), ts[i]? = some c → ∃ x, w.cell? ⟨g, off + i * 5, none⟩ = some (.string c.who) ∧ w.cell? ⟨g, off + i * 5 + 1, none⟩ = some x ∧ w.cell? ⟨g, off + i * 5 + 2, none⟩ = some (.int .i64 c.num) ∧ w.cell? ⟨g, off + i * 5 + 3, none⟩ = some (.int .i64 c.den) ∧ w.cell? ⟨g, off + i * 5 + 4, none⟩ = some (.bool c.played) ∧ Strs w lo x c.pos := by
  rcases NRows.at h with h | ⟨g, off, cap, e1, e2, e3, e4, hc⟩
  · exact .inl h
  · refine .inr ⟨g, off, cap, e1, e2, e3, e4, fun i c hi => ?_⟩
    obtain ⟨x, h1, h2⟩ := hc i c hi
    exact ⟨x, h1 0 _ rfl, h1 1 _ rfl, h1 2 _ rfl, h1 3 _ rfl, h1 4 _ rfl, h2⟩
theorem sc_of {ps : List ByteArray} {ts : List ScD} (h : ∀ i : Nat, ps[i]? = ts[i]?.map ScD.who) {i : Nat} (hi : i < ps.length) : ∃ t, ts[i]? = some t := by
  have := h i
  rw [List.getElem?_eq_getElem hi] at this
  cases ht : ts[i]? with
  | none => rw [ht] at this; simp at this
  | some t => exact ⟨t, rfl⟩
set_option maxRecDepth 100000 in
set_option maxHeartbeats 400000 in
theorem findc_calls (t : ScD) (xa : Option Addr) (xn xc : Nat) (who : ByteArray) (w : World) :
    Calls Tryz.prog 104 #[.agg #[.string t.who, .slice xa xn xc, .int .i64 t.num, .int .i64 t.den, .bool t.played], .string who] w (IntBelow (cmpS t.who who) w) := by
  go_enter Tryz.func104, Tryz.ntmps104
  go_wp2_with fail
  refine (strCompare_calls t.who who _).mono ?_
  rintro e w' ⟨rfl, rfl⟩
  rw [cmpS_eq]
  go_wp2_with fail
  go_ret
  exact ⟨rfl, below_alloc w _⟩

set_option maxRecDepth 100000 in
set_option maxHeartbeats 1000000 in
theorem searchSc_calls (lo : Nat) (who : ByteArray) (v : Value) (ts : List ScD) (w : World) (hp : Scs w lo v ts) :
    Calls Tryz.prog 103 #[v, .string who, .func (.func 104) #[] #[]] w (Found (ts.map ScD.who) who w) := by
  rcases scs_at hp with ⟨rfl, rfl⟩ | ⟨g, off, cap, rfl, _, hg, hn, hcell⟩
  · clear hp
    go_enter Tryz.func103, Tryz.ntmps103
    go_wp2
    refine wp_loop_rounds 1 ?_
    rw [rounds_succ]
    go_wp2
    go_ret2
    exact ⟨rfl, Below.refl _ _⟩
  · clear hp
    obtain ⟨ps, hps⟩ : ∃ ps, ps = ts.map ScD.who := ⟨_, rfl⟩
    have hpl : ts.length = ps.length := by rw [hps]; simp
    have Hpt := Lib.hid (show ∀ i : Nat, ps[i]? = ts[i]?.map ScD.who from fun i => by rw [hps]; simp)
    have Hbs := Lib.hid hps
    rw [← hps, hpl]
    rw [hpl] at hn
    clear hps hpl
    go_enter Tryz.func103, Tryz.ntmps103
    go_wp2_with fail
    go_loopw [9, 10] (fun a b wr => ∃ i j : Nat, i ≤ j ∧ j ≤ ps.length ∧ a = .int .i64 i ∧ b = .int .i64 j ∧ Below w.heap.size w wr ∧ Hid (∃ f, bsI ps who = bs ps who f i j ∧ j - i ≤ f)) (fun a b _ => (intOf b).toNat - (intOf a).toNat)
    case atStart => exact ⟨0, ps.length, by omega, by omega, rfl, rfl, Below.refl _ _, Lib.hid ⟨ps.length, rfl, by omega⟩⟩
    case round =>
      obtain ⟨i, j, hij, hj, rfl, rfl, hb, Hf⟩ := hrel
      by_cases hlt : i < j
      · have hh : (i + j) / 2 < ps.length := by omega
        obtain ⟨p, hpt⟩ : ∃ p, ts[(i + j) / 2]? = some p := sc_of Hpt.out hh
        have Hk := Lib.hid (show keyAt ps ((i + j) / 2) = p.who from keyAt_some (by rw [Hpt.out, hpt]; rfl))
        obtain ⟨x, h0, h1, h2, h3, h4, hx⟩ := hcell _ p hpt
        obtain ⟨xa, xc, rfl⟩ := strs_shape hx
        have g0 := below_cell hb h0
        have g1 := below_cell hb h1
        have g2 := below_cell hb h2
        have g3 := below_cell hb h3
        have g4 := below_cell hb h4
        clear hpt h0 h1 h2 h3 h4 hcell hx
        go_wp2_with fail
        refine (findc_calls p xa p.pos.length xc who _).mono ?_
        rintro e w' ⟨rfl, hb'⟩
        have hb2 := hb.trans (hb'.mono hb.size)
        cases hl : ltS p.who who
        · have e1 : decide (cmpS p.who who < 0) = false := by rw [cmpS_neg, hl]
          have Hf' := Lib.hid (show ∃ f, bsI ps who = bs ps who f i ((i + j) / 2) ∧ (i + j) / 2 - i ≤ f by
            obtain ⟨f, h1, h2⟩ := Hf.out
            obtain ⟨f', h3, h4⟩ := bs_right hlt h2 (by rw [Hk.out]; exact hl)
            exact ⟨f', h1.trans h3, h4⟩)
          clear hl
          go_wp2_with fail
          go_roundw
          case rel => exact ⟨i, (i + j) / 2, by omega, by omega, rfl, by go_num, hb2, Hf'⟩
          case measure => simp [intOf]; omega
        · have e1 : decide (cmpS p.who who < 0) = true := by rw [cmpS_neg, hl]
          have Hf' := Lib.hid (show ∃ f, bsI ps who = bs ps who f ((i + j) / 2 + 1) j ∧ j - ((i + j) / 2 + 1) ≤ f by
            obtain ⟨f, h1, h2⟩ := Hf.out
            obtain ⟨f', h3, h4⟩ := bs_left hlt h2 (by rw [Hk.out]; exact hl)
            exact ⟨f', h1.trans h3, h4⟩)
          clear hl
          go_wp2_with fail
          go_roundw
          case rel => exact ⟨(i + j) / 2 + 1, j, by omega, by omega, by go_num, rfl, hb2, Hf'⟩
          case measure => simp [intOf]; omega
      · obtain rfl : i = j := by omega
        have HI := Lib.hid (show bsI ps who = i by
          obtain ⟨f, h1, _⟩ := Hf.out
          rw [h1, bs_end (by omega)])
        clear hlt hij
        by_cases hin : i < ps.length
        · obtain ⟨p, hpt⟩ : ∃ p, ts[i]? = some p := sc_of Hpt.out hin
          have Hk := Lib.hid (show keyAt ps i = p.who from keyAt_some (by rw [Hpt.out, hpt]; rfl))
          obtain ⟨x, h0, h1, h2, h3, h4, hx⟩ := hcell _ p hpt
          obtain ⟨xa, xc, rfl⟩ := strs_shape hx
          have g0 := below_cell hb h0
          have g1 := below_cell hb h1
          have g2 := below_cell hb h2
          have g3 := below_cell hb h3
          have g4 := below_cell hb h4
          clear hpt h0 h1 h2 h3 h4 hcell hx
          go_wp2_with fail
          refine (findc_calls p xa p.pos.length xc who _).mono ?_
          rintro e w' ⟨rfl, hb'⟩
          have hb2 := hb.trans (hb'.mono hb.size)
          have Hq := Lib.hid (show (cmpS p.who who == 0) = knownB ps who by
            unfold knownB
            rw [HI.out, Hk.out]
            simp only [hin, decide_true, Bool.true_and]
            exact cmpS_zero _ _)
          have Hq' := Lib.hid (show (cmpS p.who who == 0) = true ∨ (cmpS p.who who == 0) = false by cases (cmpS p.who who == 0) <;> simp)
          rcases Hq'.out with hq | hq
          · go_wp2_with fail
            go_ret2
            refine ⟨?_, hb2⟩
            rw [HI.out, ← Hq.out, hq]; rfl
          · go_wp2_with fail
            go_ret2
            refine ⟨?_, hb2⟩
            rw [HI.out, ← Hq.out, hq]; rfl
        · have Hq := Lib.hid (show knownB ps who = false by unfold knownB; rw [HI.out]; simp [hin])
          go_wp2_with fail
          go_ret2
          refine ⟨?_, hb⟩
          rw [HI.out, Hq.out]; rfl

theorem strs_nilF (w : World) (lo : Nat) : Strs w lo (.slice none 0 0) [] := ⟨by simp, by simp, .inl ⟨rfl, rfl⟩⟩
theorem below_set5 {b X : Nat} {w w' : World} (h : Below b w w') (hX : b ≤ X) (a0 a1 a2 a3 a4 : Value) : Below b w (((((w'.setCell ⟨X, 0, none⟩ a0).setCell ⟨X, 1, none⟩ a1).setCell ⟨X, 2, none⟩ a2).setCell ⟨X, 3, none⟩ a3).setCell ⟨X, 4, none⟩ a4) :=
  ((((h.setCell (p := ⟨X, 0, none⟩) hX _).setCell (p := ⟨X, 1, none⟩) hX _).setCell (p := ⟨X, 2, none⟩) hX _).setCell (p := ⟨X, 3, none⟩) hX _).setCell (p := ⟨X, 4, none⟩) hX _
def zeroC : ScD := ⟨⟨#[]⟩, [], 0, 0, false⟩
/-- Who is found by a name: nobody has the empty one. -/
def fndC (xs : List ScD) (k : ByteArray) : ScD := if knownB (xs.map ScD.who) k then xs[bsI (xs.map ScD.who) k]?.getD zeroC else zeroC
set_option maxRecDepth 100000 in
set_option maxHeartbeats 2000000 in
theorem find_calls (lo : Nat) (v : Value) (xs : List ScD) (k : ByteArray) (w : World) (hv : Scs w lo v xs) (hlo : lo ≤ w.heap.size) :
    Calls Tryz.prog 56 #[v, .string k] w fun e w' => ∃ x, e = .returned (.tuple #[.agg #[.string (fndC xs k).who, x, .int .i64 (fndC xs k).num, .int .i64 (fndC xs k).den, .bool (fndC xs k).played], .bool (knownB (xs.map ScD.who) k)]) ∧ Strs w' lo x (fndC xs k).pos ∧ Below w.heap.size w w' := by
  obtain ⟨W, hW⟩ : ∃ W, W = w.alloc (.cells #[.string ⟨#[]⟩, .slice none 0 0, .int .i64 0, .int .i64 0, .bool false] 83) := ⟨_, rfl⟩
  have hwW : Below w.heap.size w W := by rw [hW]; exact below_alloc w _
  have hx : W.heap[w.heap.size]? = some (.cells #[.string ⟨#[]⟩, .slice none 0 0, .int .i64 0, .int .i64 0, .bool false] 83 (0, 0)) := by rw [hW]; exact heap_alloc_new w _
  have hvW := NRows.below hv hwW
  have C := Lib.hid (searchSc_calls lo k v xs W hvW)
  have HV := Lib.hid hv
  obtain ⟨a, c, rfl⟩ := NRows.shape hv
  have HF0 := Lib.hid (show knownB (xs.map ScD.who) k = false → fndC xs k = zeroC from fun h => by unfold fndC; rw [h]; rfl)
  have HF1 := Lib.hid (show knownB (xs.map ScD.who) k = true → ∃ i, bsI (xs.map ScD.who) k = i ∧ i < xs.length ∧ xs[i]? = some (fndC xs k) from fun h => by
    have hl := known_lt h
    rw [List.length_map] at hl
    refine ⟨_, rfl, hl, ?_⟩
    unfold fndC
    rw [h, if_pos rfl, List.getElem?_eq_getElem hl]; rfl)
  have HW := Lib.hid hW
  have Hx := Lib.hid hx
  generalize fndC xs k = F at HF0 HF1 ⊢
  generalize hK : knownB (xs.map ScD.who) k = K at HF0 HF1 ⊢
  clear hv hvW hW hx
  unfold Found at C
  rw [hK] at C
  clear hK
  go_enter Tryz.func56, Tryz.ntmps56
  go_upto_region 1 with fail
  rw [← HW.out]
  clear HW
  go_wp2_with fail
  refine C.out.mono ?_
  rintro e w1 ⟨rfl, hb1⟩
  have hb01 := hwW.trans (hb1.mono hwW.size)
  have Hx1 := Lib.hid (cells_later Hx.out hb1)
  cases K
  · have hF := HF0.out rfl
    subst hF
    have hx1 := Hx1.out
    have x0 := cell_at hx1 0 rfl
    have x1 := cell_at hx1 1 rfl
    have x2 := cell_at hx1 2 rfl
    have x3 := cell_at hx1 3 rfl
    have x4 := cell_at hx1 4 rfl
    have f0 := free_of hx1 0
    have f1 := free_of hx1 1
    have f2 := free_of hx1 2
    have f3 := free_of hx1 3
    have f4 := free_of hx1 4
    clear C HF0 HF1 hx1
    go_wp2_with fail
    try simp only [Exit.inBlock, Exit.then]
    refine bodyPost_ret (v := .tuple #[.agg #[.string ⟨#[]⟩, .slice none 0 0, .int .i64 0, .int .i64 0, .bool false], .bool false]) ?_ rfl ⟨_, rfl, strs_nilF _ _, below_set5 hb01 (Nat.le_refl _) _ _ _ _ _⟩
    rw [results_cell_tmp rfl]
    go_simp
  · obtain ⟨i, hi, hil, hF⟩ := HF1.out rfl
    rw [hi]
    rcases scs_at HV.out with ⟨_, h0⟩ | ⟨g, off, cap, e, hlo', hg, hn, hc⟩
    · rw [h0] at hil; simp at hil
    simp only [Value.slice.injEq] at e
    obtain ⟨rfl, -, rfl⟩ := e
    obtain ⟨x, b0, b1, b2, b3, b4, hsx⟩ := hc i F hF
    have c0 := below_cell hb01 b0
    have c1 := below_cell hb01 b1
    have c2 := below_cell hb01 b2
    have c3 := below_cell hb01 b3
    have c4 := below_cell hb01 b4
    have Hsx := Lib.hid hsx
    obtain ⟨xa, xc, rfl⟩ := strs_shape hsx
    have hx1 := Hx1.out
    have x0 := cell_at hx1 0 rfl
    have x1 := cell_at hx1 1 rfl
    have x2 := cell_at hx1 2 rfl
    have x3 := cell_at hx1 3 rfl
    have x4 := cell_at hx1 4 rfl
    have f0 := free_of hx1 0
    have f1 := free_of hx1 1
    have f2 := free_of hx1 2
    have f3 := free_of hx1 3
    have f4 := free_of hx1 4
    have hlt : (i : Int) < (xs.length : Int) := by omega
    clear C HF0 HF1 hx1 hc hF hi hsx b0 b1 b2 b3 b4
    go_wp2_with fail
    try simp only [Exit.inBlock, Exit.then]
    refine bodyPost_ret (v := .tuple #[.agg #[.string F.who, .slice xa F.pos.length xc, .int .i64 F.num, .int .i64 F.den, .bool F.played], .bool true]) ?_ rfl ⟨_, rfl, Hsx.out.below (below_set5 hb01 (Nat.le_refl _) _ _ _ _ _), below_set5 hb01 (Nat.le_refl _) _ _ _ _ _⟩
    rw [results_cell_tmp rfl]
    go_simp
end Go.Proofs.YthlfjfmlmcoihaaGreat
/- Did a scorer play; where a scorer is, on the reference's side. -/
namespace Go.Proofs.YthlfjfmlmcoihaaGreat
open Go.RowKit

set_option maxRecDepth 100000 in
set_option maxHeartbeats 1000000 in
theorem played_calls (lo : Nat) (v : Value) (xs : List ScD) (k : ByteArray) (w : World) (hv : Scs w lo v xs) (hlo : lo ≤ w.heap.size) :
    Calls Tryz.prog 94 #[v, .string k] w (BoolIs (fndC xs k).played w) := by
  have C := Lib.hid (find_calls lo v xs k w hv hlo)
  obtain ⟨a, c, rfl⟩ := NRows.shape hv
  generalize knownB (xs.map ScD.who) k = K at C
  generalize fndC xs k = F at C ⊢
  clear hv
  go_enter Tryz.func94, Tryz.ntmps94
  go_wp2_with fail
  refine C.out.mono ?_
  rintro e w1 ⟨x, rfl, hx, hb⟩
  obtain ⟨xa, xc, rfl⟩ := strs_shape hx
  clear C hx
  go_wp2_with fail
  go_ret
  exact ⟨rfl, below_step hb (below_alloc w1 _)⟩
/-- What a look for the first one gives. -/
def IdxFirstC (p : ScD → Bool) (fs : List ScD) (w : World) (e : Ending) (w' : World) : Prop :=
  ((e = .returned (.int .i64 (-1)) ∧ ∀ f ∈ fs, p f = false) ∨ ∃ i f, e = .returned (.int .i64 ((i : Nat) : Int)) ∧ fs[i]? = some f ∧ p f = true ∧ ∀ j g, j < i → fs[j]? = some g → p g = false) ∧ Below w.heap.size w w'
set_option maxRecDepth 100000 in
set_option maxHeartbeats 1000000 in
theorem indexSc_calls (g : Nat) (caps : Array Value) (p : ScD → Bool) (lo : Nat) (v : Value) (fs : List ScD) (w : World) (hv : Scs w lo v fs) (eg : ∀ args w, (callFunc g args).run Tryz.prog w = .ok (.enter g args) w)
    (hp : ∀ (W : World) (f : ScD) (xa : Option Addr) (xc : Nat), Below w.heap.size w W → Calls Tryz.prog g (#[.agg #[.string f.who, .slice xa f.pos.length xc, .int .i64 f.num, .int .i64 f.den, .bool f.played]] ++ caps) W (BoolIs (p f) W)) :
    Calls Tryz.prog 119 #[v, .func (.func g) #[] caps] w (IdxFirstC p fs w) := by
  have Hp := Lib.hid hp
  clear hp
  rcases scs_at hv with ⟨rfl, rfl⟩ | ⟨gg, off, cap, rfl, hlo, hg, hn, hcell⟩
  · clear hv
    go_enter Tryz.func119, Tryz.ntmps119
    go_wp2_with fail
    refine wp_loop_rounds 1 ?_
    rw [rounds_succ]
    go_wp2_with fail
    go_ret
    exact ⟨.inl ⟨rfl, by simp⟩, Below.refl _ _⟩
  · have Hc := Lib.hid hcell
    clear hv hcell
    go_enter Tryz.func119, Tryz.ntmps119
    go_wp2_with fail
    go_loopw [8] (fun i wr => ∃ k : Nat, k ≤ fs.length ∧ i = .int .i64 k ∧ Hid (∀ j g, j < k → fs[j]? = some g → p g = false) ∧ Below w.heap.size w wr) (fun i _ => fs.length - (intOf i).toNat)
    case atStart => exact ⟨0, Nat.zero_le _, rfl, Lib.hid fun _ _ h => by omega, Below.refl _ _⟩
    case round =>
      obtain ⟨k, hk, rfl, H0, hb⟩ := hrel
      by_cases hlt : k < fs.length
      · obtain ⟨f, hf⟩ : ∃ f, fs[k]? = some f := ⟨fs[k], List.getElem?_eq_getElem hlt⟩
        obtain ⟨x, q0, q1, q2, q3, q4, hx⟩ := Hc.out k f hf
        obtain ⟨xa, xc, rfl⟩ := strs_shape hx
        have g0 := below_cell hb q0
        have g1 := below_cell hb q1
        have g2 := below_cell hb q2
        have g3 := below_cell hb q3
        have g4 := below_cell hb q4
        have Hf := Lib.hid hf
        clear hf q0 q1 q2 q3 q4 hx
        go_wp2_with fail
        refine (Hp.out _ f xa xc hb).mono ?_
        rintro e w1 ⟨rfl, hb1⟩
        have hb2 := below_step hb hb1
        clear g0 g1 g2 g3 g4
        cases hpf : p f
        · have H1 : Hid (∀ j g, j < k + 1 → fs[j]? = some g → p g = false) := Lib.hid fun j g hj hg' => by
            rcases Nat.lt_succ_iff_lt_or_eq.1 hj with h | rfl
            · exact H0.out j g h hg'
            · rw [Hf.out] at hg'; cases hg'; exact hpf
          clear hpf
          go_wp2_with fail
          go_roundw
          case rel => exact ⟨k + 1, by omega, by go_num, H1, hb2⟩
          case measure => simp [intOf]; omega
        · have Hq := Lib.hid hpf
          clear hpf
          go_wp2_with fail
          go_ret
          exact ⟨.inr ⟨k, f, rfl, Hf.out, Hq.out, H0.out⟩, hb2⟩
      · obtain rfl : k = fs.length := by omega
        go_wp2_with fail
        go_ret
        refine ⟨.inl ⟨rfl, fun f hf => ?_⟩, hb⟩
        obtain ⟨i, hi⟩ := List.getElem?_of_mem hf
        exact H0.out i f (List.getElem?_eq_some_iff.1 hi).1 hi

theorem scorerAt1_calls (f : ScD) (k : ByteArray) (xa : Option Addr) (n c X : Nat) (w : World) (hX : w.cell? ⟨X, 0, none⟩ = some (.string k)) :
    Calls Tryz.prog 120 #[.agg #[.string f.who, .slice xa n c, .int .i64 f.num, .int .i64 f.den, .bool f.played], .pointer (some ⟨X, 0, none⟩)] w (BoolIs (beqS f.who k) w) := by
  go_enter Tryz.func120, Tryz.ntmps120
  have hX1 := below_cell (below_alloc w (.cells #[.string f.who, .slice xa n c, .int .i64 f.num, .int .i64 f.den, .bool f.played] 83)) hX
  go_wp2_with fail
  go_ret
  exact ⟨ret_bool (by unfold beqS; rfl), below_alloc w _⟩
set_option maxHeartbeats 1000000 in
theorem scorerAt_calls (lo : Nat) (v : Value) (xs : List ScD) (k : ByteArray) (w : World) (hv : Scs w lo v xs) :
    Calls Tryz.prog 66 #[v, .string k] w (IdxFirstC (fun c => beqS c.who k) xs w) := by
  have hb0 := below_alloc w (.cells #[.string k] 9)
  have x0 : (w.alloc (.cells #[.string k] 9)).cell? ⟨w.heap.size, 0, none⟩ = some (.string k) := by rw [World.cell?_alloc_at _ _ _ _ rfl]; rfl
  have C := Lib.hid (indexSc_calls 120 #[.pointer (some ⟨w.heap.size, 0, none⟩)] (fun c => beqS c.who k) lo v xs _ (NRows.below hv hb0) (by intro args w; go_simp) (fun W f xa xc hb => scorerAt1_calls f k xa _ xc w.heap.size W (below_cell hb x0)))
  obtain ⟨a, c, rfl⟩ := NRows.shape hv
  clear hv x0
  go_enter Tryz.func66, Tryz.ntmps66
  go_wp2_with fail
  refine C.out.mono ?_
  rintro e w1 ⟨⟨rfl, h0⟩ | ⟨i, f, rfl, hf⟩, hb⟩
  · clear C
    go_wp2_with fail
    go_ret
    exact ⟨.inl ⟨rfl, h0⟩, below_step hb0 hb⟩
  · clear C
    go_wp2_with fail
    go_ret
    exact ⟨.inr ⟨i, f, rfl, hf⟩, below_step hb0 hb⟩
end Go.Proofs.YthlfjfmlmcoihaaGreat
namespace Go.Proofs.YthlfjfmlmcoihaaGreat
open Go.RowKit

theorem keyAt_who {xs : List ScD} {i : Nat} {c : ScD} (h : xs[i]? = some c) : keyAt (xs.map ScD.who) i = c.who := keyAt_some (by rw [List.getElem?_map, h]; rfl)
theorem fnd_at {xs : List ScD} {k : ByteArray} (hs : SortedK (xs.map ScD.who)) {i : Nat} {c : ScD} (hi : xs[i]? = some c) (hk : c.who = k) : knownB (xs.map ScD.who) k = true ∧ bsI (xs.map ScD.who) k = i ∧ fndC xs k = c := by
  have hK : knownB (xs.map ScD.who) k = true := by
    rw [known_eq hs]
    unfold hasK
    rw [List.any_eq_true]
    exact ⟨c.who, List.mem_map_of_mem (List.mem_of_getElem? hi), beqS_iff.2 hk⟩
  have hil : i < xs.length := (List.getElem?_eq_some_iff.1 hi).1
  have hj := known_lt hK
  have hkj : keyAt (xs.map ScD.who) (bsI (xs.map ScD.who) k) = k := by
    have h := hK
    unfold knownB at h
    rw [Bool.and_eq_true] at h
    exact beqS_iff.1 h.2
  have hki : keyAt (xs.map ScD.who) i = k := (keyAt_who hi).trans hk
  have hb : bsI (xs.map ScD.who) k = i := by
    rcases Nat.lt_trichotomy (bsI (xs.map ScD.who) k) i with h | h | h
    · have := hs _ _ h (by rw [List.length_map]; exact hil)
      rw [hkj, hki, ltS_irrefl] at this; cases this
    · exact h
    · have := hs _ _ h hj
      rw [hkj, hki, ltS_irrefl] at this; cases this
  refine ⟨hK, hb, ?_⟩
  unfold fndC
  rw [hK, if_pos rfl, hb, hi]; rfl
theorem fnd_none {xs : List ScD} {k : ByteArray} (hs : SortedK (xs.map ScD.who)) (h : ∀ c ∈ xs, beqS c.who k = false) : knownB (xs.map ScD.who) k = false ∧ fndC xs k = zeroC := by
  have hK : knownB (xs.map ScD.who) k = false := by
    rw [known_eq hs]
    unfold hasK
    rw [List.any_eq_false]
    intro p hp
    obtain ⟨c, hc, rfl⟩ := List.mem_map.1 hp
    rw [h c hc]; simp
  exact ⟨hK, by unfold fndC; rw [hK]; rfl⟩
end Go.Proofs.YthlfjfmlmcoihaaGreat
