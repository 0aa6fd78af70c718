/- SubbedOf: the same. -/
import Derived.Test.YthlfjfmlmcoihaaGreatMgbb
import Derived.Test.YthlfjfmlmcoihaaGreatMgbc
namespace Go.Proofs.YthlfjfmlmcoihaaGreat
open Go.RowKit

theorem fnd_unknown {cs : List ScD} {k : ByteArray} (h : knownB (cs.map ScD.who) k = false) : fndC cs k = zeroC := by unfold fndC; rw [h]; rfl
theorem known_mem {cs : List ScD} {k : ByteArray} (h : knownB (cs.map ScD.who) k = true) : ∃ c ∈ cs, c.who = k := by
  unfold knownB at h
  rw [Bool.and_eq_true] at h
  obtain ⟨h1, h2⟩ := h
  have hl := of_decide_eq_true h1
  rw [List.length_map] at hl
  have hk := beqS_iff.1 h2
  have : keyAt (cs.map ScD.who) (bsI (cs.map ScD.who) k) = (cs[bsI (cs.map ScD.who) k]).who := keyAt_who (List.getElem?_eq_getElem hl)
  exact ⟨_, List.getElem_mem hl, by rw [← this, hk]⟩
theorem bn_cn {cs : List ScD} {fs : List FiD} {b : ByteArray} (h : knownB (cs.map ScD.who) b = true) : cnS (bnOf cs fs) b = !inF fs b := by
  rw [Bool.eq_iff_iff, cnS_iff]
  unfold bnOf
  rw [List.mem_map]
  constructor
  · rintro ⟨c, hc, rfl⟩
    exact (List.mem_filter.1 hc).2
  · intro hi
    obtain ⟨c, hc, rfl⟩ := known_mem h
    exact ⟨c, List.mem_filter.2 ⟨hc, hi⟩, rfl⟩
theorem each_zero {n : Nat} {most : Int} {f : Nat → Int} (h : eachE n most f = 0) : ∀ i, i < n → f i = 0 := by
  unfold eachE at h
  split at h
  · simp at h
  · intro i
    induction i using Nat.strongRecOn with
    | ind i ih =>
      intro hi
      by_cases hz : f i = 0
      · exact hz
      · have := errsTo_hit (n := n) hi (fun j hj => ih j hj (by omega)) hz
        rw [Int.toNat_natCast] at h
        rw [this] at h
        exact absurd h hz
theorem wn_known {cs : List ScD} {fs : List FiD} {ks : List ByteArray} (h : wnE cs fs ks = 0) : ∀ b ∈ ks, knownB (cs.map ScD.who) b = true := by
  intro b hb
  obtain ⟨i, hi⟩ := List.getElem?_of_mem hb
  have h1 := each_zero h i (List.getElem?_eq_some_iff.1 hi).1
  unfold wnF at h1
  rw [stAt_some hi] at h1
  cases hk : knownB (cs.map ScD.who) b
  · rw [hk] at h1
    simp [firstE, unlessE] at h1
  · rfl
def ops_43_11 : Array Go.Oper := #[
  { dst := some 50, op := Go.Op.fieldAddr 83 (Go.Operand.tmp 14) 3, type := 0, pos := "scores.go:332", after := #[], guard := none },
  { dst := some 51, op := Go.Op.load 4 (Go.Operand.tmp 50), type := 4, pos := "scores.go:332", after := #[{ on := 0, ground := Go.Ground.data }], guard := none },
  { dst := some 52, op := Go.Op.move (Go.Operand.tmp 51), type := 4, pos := "scores.go:332", after := #[{ on := 1, ground := Go.Ground.data }], guard := none },
  { dst := some 53, op := Go.Op.move (Go.Operand.tmp 0), type := 26, pos := "scores.go:332", after := #[{ on := 2, ground := Go.Ground.guard }], guard := some (2, true) },
  { dst := some 54, op := Go.Op.move (Go.Operand.tmp 10), type := 3, pos := "scores.go:332", after := #[{ on := 2, ground := Go.Ground.guard }], guard := some (2, true) },
  { dst := some 55, op := Go.Op.indexAddr 26 (Go.Operand.tmp 53) (Go.Operand.tmp 54), type := 0, pos := "scores.go:332", after := #[{ on := 3, ground := Go.Ground.data }, { on := 4, ground := Go.Ground.data }, { on := 2, ground := Go.Ground.guard }], guard := some (2, true) },
  { dst := some 56, op := Go.Op.load 78 (Go.Operand.tmp 55), type := 78, pos := "scores.go:332", after := #[{ on := 5, ground := Go.Ground.data }, { on := 2, ground := Go.Ground.guard }], guard := some (2, true) },
  { dst := some 57, op := Go.Op.load 83 (Go.Operand.tmp 14), type := 83, pos := "scores.go:332", after := #[{ on := 2, ground := Go.Ground.guard }], guard := some (2, true) },
  { dst := some 58, op := Go.Op.call { callee := Go.Callee.value (Go.Operand.func 68), args := #[Go.Operand.tmp 56, Go.Operand.tmp 57], argTypes := #[78, 83] }, type := 4, pos := "scores.go:332", after := #[{ on := 6, ground := Go.Ground.data }, { on := 7, ground := Go.Ground.data }, { on := 2, ground := Go.Ground.chain }, { on := 2, ground := Go.Ground.guard }], guard := some (2, true) },
  { dst := some 59, op := Go.Op.pick (Go.Operand.tmp 52) (Go.Operand.tmp 58) (Go.Operand.const (Go.Value.bool false)), type := 4, pos := "scores.go:332", after := #[{ on := 2, ground := Go.Ground.data }, { on := 8, ground := Go.Ground.data }], guard := none },
  { dst := some 60, op := Go.Op.move (Go.Operand.tmp 59), type := 4, pos := "scores.go:332", after := #[{ on := 9, ground := Go.Ground.data }, { on := 8, ground := Go.Ground.chain }], guard := none },
  { dst := some 61, op := Go.Op.move (Go.Operand.tmp 1), type := 28, pos := "scores.go:332", after := #[{ on := 10, ground := Go.Ground.guard }], guard := some (10, true) },
  { dst := some 62, op := Go.Op.move (Go.Operand.tmp 9), type := 30, pos := "scores.go:332", after := #[{ on := 10, ground := Go.Ground.guard }], guard := some (10, true) },
  { dst := some 63, op := Go.Op.call { callee := Go.Callee.value (Go.Operand.func 23), args := #[Go.Operand.tmp 61, Go.Operand.tmp 62], argTypes := #[28, 30] }, type := 39, pos := "scores.go:332", after := #[{ on := 11, ground := Go.Ground.data }, { on := 12, ground := Go.Ground.data }, { on := 10, ground := Go.Ground.chain }, { on := 10, ground := Go.Ground.guard }], guard := some (10, true) },
  { dst := some 64, op := Go.Op.move (Go.Operand.tmp 13), type := 9, pos := "scores.go:332", after := #[{ on := 10, ground := Go.Ground.guard }], guard := some (10, true) },
  { dst := some 65, op := Go.Op.call { callee := Go.Callee.value (Go.Operand.func 52), args := #[Go.Operand.tmp 63, Go.Operand.tmp 64], argTypes := #[39, 9] }, type := 4, pos := "scores.go:332", after := #[{ on := 13, ground := Go.Ground.data }, { on := 14, ground := Go.Ground.data }, { on := 13, ground := Go.Ground.chain }, { on := 10, ground := Go.Ground.guard }], guard := some (10, true) },
  { dst := some 66, op := Go.Op.pick (Go.Operand.tmp 60) (Go.Operand.tmp 65) (Go.Operand.const (Go.Value.bool false)), type := 4, pos := "scores.go:332", after := #[{ on := 10, ground := Go.Ground.data }, { on := 15, ground := Go.Ground.data }], guard := none }]
theorem ops_43_11_0 : ops_43_11[0]? = some ({ dst := some 50, op := Go.Op.fieldAddr 83 (Go.Operand.tmp 14) 3, type := 0, pos := "scores.go:332", after := #[], guard := none } : Go.Oper) := rfl
theorem ops_43_11_1 : ops_43_11[1]? = some ({ dst := some 51, op := Go.Op.load 4 (Go.Operand.tmp 50), type := 4, pos := "scores.go:332", after := #[{ on := 0, ground := Go.Ground.data }], guard := none } : Go.Oper) := rfl
theorem ops_43_11_2 : ops_43_11[2]? = some ({ dst := some 52, op := Go.Op.move (Go.Operand.tmp 51), type := 4, pos := "scores.go:332", after := #[{ on := 1, ground := Go.Ground.data }], guard := none } : Go.Oper) := rfl
theorem ops_43_11_3 : ops_43_11[3]? = some ({ dst := some 53, op := Go.Op.move (Go.Operand.tmp 0), type := 26, pos := "scores.go:332", after := #[{ on := 2, ground := Go.Ground.guard }], guard := some (2, true) } : Go.Oper) := rfl
theorem ops_43_11_4 : ops_43_11[4]? = some ({ dst := some 54, op := Go.Op.move (Go.Operand.tmp 10), type := 3, pos := "scores.go:332", after := #[{ on := 2, ground := Go.Ground.guard }], guard := some (2, true) } : Go.Oper) := rfl
theorem ops_43_11_5 : ops_43_11[5]? = some ({ dst := some 55, op := Go.Op.indexAddr 26 (Go.Operand.tmp 53) (Go.Operand.tmp 54), type := 0, pos := "scores.go:332", after := #[{ on := 3, ground := Go.Ground.data }, { on := 4, ground := Go.Ground.data }, { on := 2, ground := Go.Ground.guard }], guard := some (2, true) } : Go.Oper) := rfl
theorem ops_43_11_6 : ops_43_11[6]? = some ({ dst := some 56, op := Go.Op.load 78 (Go.Operand.tmp 55), type := 78, pos := "scores.go:332", after := #[{ on := 5, ground := Go.Ground.data }, { on := 2, ground := Go.Ground.guard }], guard := some (2, true) } : Go.Oper) := rfl
theorem ops_43_11_7 : ops_43_11[7]? = some ({ dst := some 57, op := Go.Op.load 83 (Go.Operand.tmp 14), type := 83, pos := "scores.go:332", after := #[{ on := 2, ground := Go.Ground.guard }], guard := some (2, true) } : Go.Oper) := rfl
theorem ops_43_11_8 : ops_43_11[8]? = some ({ dst := some 58, op := Go.Op.call { callee := Go.Callee.value (Go.Operand.func 68), args := #[Go.Operand.tmp 56, Go.Operand.tmp 57], argTypes := #[78, 83] }, type := 4, pos := "scores.go:332", after := #[{ on := 6, ground := Go.Ground.data }, { on := 7, ground := Go.Ground.data }, { on := 2, ground := Go.Ground.chain }, { on := 2, ground := Go.Ground.guard }], guard := some (2, true) } : Go.Oper) := rfl
theorem ops_43_11_9 : ops_43_11[9]? = some ({ dst := some 59, op := Go.Op.pick (Go.Operand.tmp 52) (Go.Operand.tmp 58) (Go.Operand.const (Go.Value.bool false)), type := 4, pos := "scores.go:332", after := #[{ on := 2, ground := Go.Ground.data }, { on := 8, ground := Go.Ground.data }], guard := none } : Go.Oper) := rfl
theorem ops_43_11_10 : ops_43_11[10]? = some ({ dst := some 60, op := Go.Op.move (Go.Operand.tmp 59), type := 4, pos := "scores.go:332", after := #[{ on := 9, ground := Go.Ground.data }, { on := 8, ground := Go.Ground.chain }], guard := none } : Go.Oper) := rfl
theorem ops_43_11_11 : ops_43_11[11]? = some ({ dst := some 61, op := Go.Op.move (Go.Operand.tmp 1), type := 28, pos := "scores.go:332", after := #[{ on := 10, ground := Go.Ground.guard }], guard := some (10, true) } : Go.Oper) := rfl
theorem ops_43_11_12 : ops_43_11[12]? = some ({ dst := some 62, op := Go.Op.move (Go.Operand.tmp 9), type := 30, pos := "scores.go:332", after := #[{ on := 10, ground := Go.Ground.guard }], guard := some (10, true) } : Go.Oper) := rfl
theorem ops_43_11_13 : ops_43_11[13]? = some ({ dst := some 63, op := Go.Op.call { callee := Go.Callee.value (Go.Operand.func 23), args := #[Go.Operand.tmp 61, Go.Operand.tmp 62], argTypes := #[28, 30] }, type := 39, pos := "scores.go:332", after := #[{ on := 11, ground := Go.Ground.data }, { on := 12, ground := Go.Ground.data }, { on := 10, ground := Go.Ground.chain }, { on := 10, ground := Go.Ground.guard }], guard := some (10, true) } : Go.Oper) := rfl
theorem ops_43_11_14 : ops_43_11[14]? = some ({ dst := some 64, op := Go.Op.move (Go.Operand.tmp 13), type := 9, pos := "scores.go:332", after := #[{ on := 10, ground := Go.Ground.guard }], guard := some (10, true) } : Go.Oper) := rfl
theorem ops_43_11_15 : ops_43_11[15]? = some ({ dst := some 65, op := Go.Op.call { callee := Go.Callee.value (Go.Operand.func 52), args := #[Go.Operand.tmp 63, Go.Operand.tmp 64], argTypes := #[39, 9] }, type := 4, pos := "scores.go:332", after := #[{ on := 13, ground := Go.Ground.data }, { on := 14, ground := Go.Ground.data }, { on := 13, ground := Go.Ground.chain }, { on := 10, ground := Go.Ground.guard }], guard := some (10, true) } : Go.Oper) := rfl
theorem ops_43_11_16 : ops_43_11[16]? = some ({ dst := some 66, op := Go.Op.pick (Go.Operand.tmp 60) (Go.Operand.tmp 65) (Go.Operand.const (Go.Value.bool false)), type := 4, pos := "scores.go:332", after := #[{ on := 10, ground := Go.Ground.data }, { on := 15, ground := Go.Ground.data }], guard := none } : Go.Oper) := rfl
theorem ops_43_11_ns : Go.Region.noSelect ops_43_11 = true := by kernel_rfl
set_option maxRecDepth 100000 in
set_option maxHeartbeats 16000000 in
theorem subbedOf_calls (lo lo' lo3 lo4 : Nat) (v u z y : Value) (ss : List SlD) (cs : List ScD) (fs : List FiD) (ks : List ByteArray) (w : World) (hS : Sls w lo' v ss) (hC : Scs w lo u cs) (hcn : cs.length ≤ 1000) (hsort : SortedK (cs.map ScD.who)) (hF : Fis w lo3 z fs) (hfn : fs.length ≤ 1000000) (hl : fs.length = ss.length) (hpos : 0 < fs.length) (hK : Strs w lo4 y ks) (hkn : ks.length ≤ 1000000) (hknown : ∀ b ∈ ks, knownB (cs.map ScD.who) b = true) :
    Calls Tryz.prog 43 #[v, u, z, y] w fun e w' => ∃ v', e = .returned v' ∧ Fis w' w.heap.size v' (sbTo cs ks ss fs ss.length) ∧ Below w.heap.size w w' := by
  have HS0 := Lib.hid hS
  have HC0 := Lib.hid hC
  have HF0 := Lib.hid hF
  have HK0 := Lib.hid hK
  have Hsort := Lib.hid hsort
  have Hkn := Lib.hid hknown
  have Hl := Lib.hid hl
  have Hbig := Lib.hid (show fs.length ≤ 1000000 from hfn)
  obtain ⟨sa, sc, rfl⟩ := NRows.shape hS
  obtain ⟨ca, cc, rfl⟩ := NRows.shape hC
  obtain ⟨fa, fc, rfl⟩ := fis_shape hF
  obtain ⟨ka, kc, rfl⟩ := strs_shape hK
  rw [← hl]
  clear hS hC hF hK hsort hknown hl
  go_enter Tryz.func43, Tryz.ntmps43
  go_wp2_with fail
  refine (cloneFi_calls lo3 _ fs _ HF0.out).mono ?_
  rintro e w2 ⟨v2, hown, rfl, hb2⟩
  rcases hown.2 with ⟨rfl, h0⟩ | ⟨g, cap, cur, rfl, hgw, hgc, hle, _⟩
  · exact absurd h0 (by omega)
  obtain ⟨hat, _⟩ := RowsAt.of_owns (sz := 2) (rows := fs.map fiRow) (by simpa [OwnFi] using hown) (by simp [fiRow])
  clear hown hgc
  go_wp2_with fail
  go_loopw [19] (fun i wr => ∃ k : Nat, k ≤ fs.length ∧ i = .int .i64 k ∧ Hid (RowsAt wr 49 g 0 2 ((sbTo cs ks ss fs k).map fiRow)) ∧ Below w.heap.size w wr) (fun i _ => fs.length - (intOf i).toNat)
  case atStart => exact ⟨0, Nat.zero_le _, rfl, Lib.hid hat, hb2⟩
  case round =>
    clear hat hb2
    obtain ⟨k, hk, rfl, Hat, hb⟩ := hrel
    by_cases hlt : k < fs.length
    · obtain ⟨s, hs⟩ : ∃ s, ss[k]? = some s := ⟨_, List.getElem?_eq_getElem (by have := Hl.out; omega)⟩
      have Hnext := Lib.hid (show sbTo cs ks ss fs (k + 1) = sbStep cs ks s k (sbTo cs ks ss fs k) by rw [sbTo, slAt_some hs])
      have HFl := Lib.hid (sbTo_len cs ks ss fs k)
      generalize sbTo cs ks ss fs k = F at Hat Hnext HFl
      obtain ⟨f, hf⟩ : ∃ f, F[k]? = some f := ⟨_, List.getElem?_eq_getElem (by have := HFl.out; omega)⟩
      have Hf := Lib.hid hf
      rcases sls_at HS0.out with ⟨_, h⟩ | ⟨g', off', cap', e, _, hg', _, hcell⟩
      · rw [h] at hs; simp at hs
      simp only [Value.slice.injEq] at e
      obtain ⟨rfl, -, rfl⟩ := e
      obtain ⟨pv, s0, s1, hpv⟩ := hcell k s hs
      have Hpv := Lib.hid hpv
      obtain ⟨pa, pc, rfl⟩ := strs_shape hpv
      have Hs0 := Lib.hid s0
      have Hs1 := Lib.hid s1
      have hlt' : (k : Int) < (fs.length : Int) := by omega
      have hls' : (k : Int) < (ss.length : Int) := by have := Hl.out; omega
      have hw0 : wr.cell? ⟨g, k * 2 + 1, none⟩ = some (.string f.who) := by
        have := Hat.out.cell (i := k) (j := 1) (r := fiRow f) (u := .string f.who) (by simp [Hf.out]) rfl
        simpa using this
      clear hs hf hcell hpv s0 s1
      go_wp2_with fail
      refine (scorerAt_calls lo _ cs f.who wr (NRows.below HC0.out hb)).mono ?_
      rintro e w1 hat
      have hb1 := hat.2
      obtain ⟨kv, rfl, hkv⟩ := at_of Hsort.out hat
      have hbw1 := below_step hb hb1
      have Hat := Lib.hid (Hat.out.below hb1)
      clear hat hw0 hb hb1
      rcases hkv with ⟨rfl, hkn'⟩ | ⟨q, rfl, hcq, hkn'⟩
      · have Hp := Lib.hid (show (fndC cs f.who).played = false by rw [fnd_unknown hkn']; rfl)
        clear hkn'
        go_wp2_with fail
        go_loopw [40] (fun i wq => ∃ j : Nat, j ≤ ks.length ∧ i = .int .i64 j ∧ Hid (∀ q b, q < j → ks[q]? = some b → sbP cs s F b = false) ∧ Hid (RowsAt wq 49 g 0 2 (F.map fiRow)) ∧ Below w.heap.size w wq) (fun i _ => ks.length - (intOf i).toNat)
        case atStart => exact ⟨0, Nat.zero_le _, rfl, Lib.hid (fun q b h => by omega), Hat, hbw1⟩
        case round =>
          clear Hat hbw1
          obtain ⟨j, hj, rfl, Hbef, Hat, hb⟩ := hrel
          by_cases hlj : j < ks.length
          · obtain ⟨b, hbj⟩ : ∃ b, ks[j]? = some b := ⟨_, List.getElem?_eq_getElem hlj⟩
            have Hbj := Lib.hid hbj
            have Hkb := Lib.hid (Hkn.out b (List.mem_of_getElem? hbj))
            have Hnx := Lib.hid (fun (h : sbP cs s F b = false) q b' (hq : q < j + 1) (hb' : ks[q]? = some b') => (show sbP cs s F b' = false by
              rcases Nat.lt_succ_iff_lt_or_eq.1 hq with h' | rfl
              · exact Hbef.out q b' h' hb'
              · rw [Hbj.out] at hb'; cases hb'; exact h))
            have Hst := Lib.hid (fun (h : sbP cs s F b = true) => sb_some (i := k) Hf.out Hp.out Hbj.out h Hbef.out)
            rcases strs_at HK0.out with ⟨_, h⟩ | ⟨kg, koff, kcap, e, _, hkg, _, hkc⟩
            · rw [h] at hlj; simp at hlj
            simp only [Value.slice.injEq] at e
            obtain ⟨rfl, -, rfl⟩ := e
            have k0 := below_cell hb (hkc j b hbj)
            have hlj' : (j : Int) < (ks.length : Int) := by omega
            rcases scs_at HC0.out with ⟨_, h⟩ | ⟨cg, coff, ccap, e, _, hcg, _, hcell⟩
            · have := known_mem Hkb.out; rw [h] at this; simp at this
            simp only [Value.slice.injEq] at e
            obtain ⟨rfl, -, rfl⟩ := e
            have Hcell := Lib.hid hcell
            clear hbj hkc hcell
            go_wp2_with fail
            refine (scorerAt_calls lo _ cs b wr (NRows.below HC0.out hb)).mono ?_
            rintro e w3 hat
            have hb3 := hat.2
            obtain ⟨kv, rfl, hkv⟩ := at_of Hsort.out hat
            clear hat k0
            rcases hkv with ⟨rfl, hkf⟩ | ⟨q, rfl, hcq, -⟩
            · have := Hkb.out; rw [hkf] at this; cases this
            have hbw3 := below_step hb hb3
            have hqn' : (q : Int) < (cs.length : Int) := by have := (List.getElem?_eq_some_iff.1 hcq).1; omega
            obtain ⟨cv, r0, r1, r2, r3, r4, hcv⟩ := Hcell.out q _ hcq
            have HP := Lib.hid (show sbP cs s F b = ((fndC cs b).played && suitB (fndC cs b) s && !inF F b) from rfl)
            have Hcn := Lib.hid (bn_cn (fs := F) Hkb.out)
            generalize fndC cs b = Fc at HP r0 r1 r2 r3 r4 hcv
            have Hcv := Lib.hid hcv
            obtain ⟨xa, xc, rfl⟩ := strs_shape hcv
            have r0 := below_cell hbw3 r0
            have r1 := below_cell hbw3 r1
            have r2 := below_cell hbw3 r2
            have r3 := below_cell hbw3 r3
            have r4 := below_cell hbw3 r4
            have Hat := Lib.hid (Hat.out.below hb3)
            clear hcv hcq hb hb3
            go_upto_region 11 with fail
            obtain ⟨V, hV⟩ : ∃ V, V = w3.alloc (.cells #[.string Fc.who, .slice xa Fc.pos.length xc, .int .i64 Fc.num, .int .i64 Fc.den, .bool Fc.played] 83) := ⟨_, rfl⟩
            have hb3V : Below w3.heap.size w3 V := by rw [hV]; exact below_alloc w3 _
            have hx14 : V.heap[w3.heap.size]? = some (.cells #[.string Fc.who, .slice xa Fc.pos.length xc, .int .i64 Fc.num, .int .i64 Fc.den, .bool Fc.played] 83 (0, 0)) := by rw [hV]; exact heap_alloc_new w3 _
            rw [← hV]
            have hbwV := below_step hbw3 hb3V
            have Hat := Lib.hid (Hat.out.below hb3V)
            have x0 := cell_at hx14 0 rfl
            have x1 := cell_at hx14 1 rfl
            have x2 := cell_at hx14 2 rfl
            have x3 := cell_at hx14 3 rfl
            have x4 := cell_at hx14 4 rfl
            have c0 := below_cell hbwV Hs0.out
            have c1 := below_cell hbwV Hs1.out
            generalize hX : w3.heap.size = X at x0 x1 x2 x3 x4 ⊢
            have hb0 := (Below.refl V.heap.size V).drew
            clear hV hx14 hb3V hX r0 r1 r2 r3 r4 hbw3
            cases hp : Fc.played
            · rw [hp] at HP x4
              have HS := Lib.hid (show ∀ w', Below V.heap.size V w' → (Below V.heap.size V w' ∧ w'.cell? ⟨X, 0, none⟩ = some (.string Fc.who) ∧ w'.cell? ⟨X, 1, none⟩ = some (.slice xa Fc.pos.length xc) ∧ w'.cell? ⟨X, 2, none⟩ = some (.int .i64 Fc.num) ∧ w'.cell? ⟨X, 3, none⟩ = some (.int .i64 Fc.den) ∧ w'.cell? ⟨X, 4, none⟩ = some (.bool false) ∧ w'.cell? ⟨g', off' + k * 2, none⟩ = some (.string s.key) ∧ w'.cell? ⟨g', off' + k * 2 + 1, none⟩ = some (.slice pa s.pos.length pc)) from fun w' hb => ⟨hb, below_cell hb x0, below_cell hb x1, below_cell hb x2, below_cell hb x3, below_cell hb x4, below_cell hb c0, below_cell hb c1⟩)
              clear x0 x1 x2 x3 x4 c0 c1 hp
              show Code.wp _ (Code.region 11 ops_43_11 true) _ _ _
              refine region_start 17 (fun w' => Below V.heap.size V w' ∧ w'.cell? ⟨X, 0, none⟩ = some (.string Fc.who) ∧ w'.cell? ⟨X, 1, none⟩ = some (.slice xa Fc.pos.length xc) ∧ w'.cell? ⟨X, 2, none⟩ = some (.int .i64 Fc.num) ∧ w'.cell? ⟨X, 3, none⟩ = some (.int .i64 Fc.den) ∧ w'.cell? ⟨X, 4, none⟩ = some (.bool false) ∧ w'.cell? ⟨g', off' + k * 2, none⟩ = some (.string s.key) ∧ w'.cell? ⟨g', off' + k * 2 + 1, none⟩ = some (.slice pa s.pos.length pc)) (by kernel_rfl) rfl ?_ (fun hHeld => ?_)
              · (exact HS.out _ (by first | assumption | exact hHeld.1 | exact below_step hHeld.1 (by assumption) | exact below_step hHeld.1 (below_alloc _ _)))
              refine take_to 0 50 #[true, false, false, false, false, false, false, false, false, false, false, false, false, false, false, false, false] (v := ?_) ops_43_11_0 rfl ops_43_11_ns (by kernel_rfl) (by kernel_rfl) (fun _ _ _ h => h) (by rfl) ?y0a (by assumption) ?_
              case y0a =>
                intro w hSw
                try dsimp only at hSw
                go_simp
                try with_reducible rfl
              simp only [List.set_cons_zero, List.set_cons_succ]
              refine take_to 1 51 #[true, true, false, false, false, false, false, false, false, false, false, false, false, false, false, false, false] (v := ?_) ops_43_11_1 rfl ops_43_11_ns (by kernel_rfl) (by kernel_rfl) (fun _ _ _ h => h) (by rfl) ?y1a (by assumption) ?_
              case y1a =>
                intro w hSw
                try dsimp only at hSw
                go_simp
                try with_reducible rfl
              simp only [List.set_cons_zero, List.set_cons_succ]
              refine take_to 2 52 #[true, true, true, false, false, false, false, false, false, false, false, false, false, false, false, false, false] (v := ?_) ops_43_11_2 rfl ops_43_11_ns (by kernel_rfl) (by kernel_rfl) (fun _ _ _ h => h) (by rfl) ?y2a (by assumption) ?_
              case y2a =>
                intro w hSw
                try dsimp only at hSw
                go_simp
                try with_reducible rfl
              simp only [List.set_cons_zero, List.set_cons_succ]
              refine skip_to 3 53 #[true, true, true, true, false, false, false, false, false, false, false, false, false, false, false, false, false] ops_43_11_3 rfl ops_43_11_ns (by kernel_rfl) (by kernel_rfl) (fun _ _ _ h => h) (by rfl) (by assumption) ?_
              simp only [List.set_cons_zero, List.set_cons_succ]
              refine skip_to 4 54 #[true, true, true, true, true, false, false, false, false, false, false, false, false, false, false, false, false] ops_43_11_4 rfl ops_43_11_ns (by kernel_rfl) (by kernel_rfl) (fun _ _ _ h => h) (by rfl) (by assumption) ?_
              simp only [List.set_cons_zero, List.set_cons_succ]
              refine skip_to 5 55 #[true, true, true, true, true, true, false, false, false, false, false, false, false, false, false, false, false] ops_43_11_5 rfl ops_43_11_ns (by kernel_rfl) (by kernel_rfl) (fun _ _ _ h => h) (by rfl) (by assumption) ?_
              simp only [List.set_cons_zero, List.set_cons_succ]
              refine skip_to 6 56 #[true, true, true, true, true, true, true, false, false, false, false, false, false, false, false, false, false] ops_43_11_6 rfl ops_43_11_ns (by kernel_rfl) (by kernel_rfl) (fun _ _ _ h => h) (by rfl) (by assumption) ?_
              simp only [List.set_cons_zero, List.set_cons_succ]
              refine skip_to 7 57 #[true, true, true, true, true, true, true, true, false, false, false, false, false, false, false, false, false] ops_43_11_7 rfl ops_43_11_ns (by kernel_rfl) (by kernel_rfl) (fun _ _ _ h => h) (by rfl) (by assumption) ?_
              simp only [List.set_cons_zero, List.set_cons_succ]
              refine skip_to 8 58 #[true, true, true, true, true, true, true, true, true, false, false, false, false, false, false, false, false] ops_43_11_8 rfl ops_43_11_ns (by kernel_rfl) (by kernel_rfl) (fun _ _ _ h => h) (by rfl) (by assumption) ?_
              simp only [List.set_cons_zero, List.set_cons_succ]
              refine take_to 9 59 #[true, true, true, true, true, true, true, true, true, true, false, false, false, false, false, false, false] (v := ?_) ops_43_11_9 rfl ops_43_11_ns (by kernel_rfl) (by kernel_rfl) (fun _ _ _ h => h) (by rfl) ?y9a (by assumption) ?_
              case y9a =>
                intro w hSw
                try dsimp only at hSw
                go_simp
                try with_reducible rfl
              simp only [List.set_cons_zero, List.set_cons_succ]
              refine take_to 10 60 #[true, true, true, true, true, true, true, true, true, true, true, false, false, false, false, false, false] (v := ?_) ops_43_11_10 rfl ops_43_11_ns (by kernel_rfl) (by kernel_rfl) (fun _ _ _ h => h) (by rfl) ?y10a (by assumption) ?_
              case y10a =>
                intro w hSw
                try dsimp only at hSw
                go_simp
                try with_reducible rfl
              simp only [List.set_cons_zero, List.set_cons_succ]
              refine skip_to 11 61 #[true, true, true, true, true, true, true, true, true, true, true, true, false, false, false, false, false] ops_43_11_11 rfl ops_43_11_ns (by kernel_rfl) (by kernel_rfl) (fun _ _ _ h => h) (by rfl) (by assumption) ?_
              simp only [List.set_cons_zero, List.set_cons_succ]
              refine skip_to 12 62 #[true, true, true, true, true, true, true, true, true, true, true, true, true, false, false, false, false] ops_43_11_12 rfl ops_43_11_ns (by kernel_rfl) (by kernel_rfl) (fun _ _ _ h => h) (by rfl) (by assumption) ?_
              simp only [List.set_cons_zero, List.set_cons_succ]
              refine skip_to 13 63 #[true, true, true, true, true, true, true, true, true, true, true, true, true, true, false, false, false] ops_43_11_13 rfl ops_43_11_ns (by kernel_rfl) (by kernel_rfl) (fun _ _ _ h => h) (by rfl) (by assumption) ?_
              simp only [List.set_cons_zero, List.set_cons_succ]
              refine skip_to 14 64 #[true, true, true, true, true, true, true, true, true, true, true, true, true, true, true, false, false] ops_43_11_14 rfl ops_43_11_ns (by kernel_rfl) (by kernel_rfl) (fun _ _ _ h => h) (by rfl) (by assumption) ?_
              simp only [List.set_cons_zero, List.set_cons_succ]
              refine skip_to 15 65 #[true, true, true, true, true, true, true, true, true, true, true, true, true, true, true, true, false] ops_43_11_15 rfl ops_43_11_ns (by kernel_rfl) (by kernel_rfl) (fun _ _ _ h => h) (by rfl) (by assumption) ?_
              simp only [List.set_cons_zero, List.set_cons_succ]
              refine take_to 16 66 #[true, true, true, true, true, true, true, true, true, true, true, true, true, true, true, true, true] (v := ?_) ops_43_11_16 rfl ops_43_11_ns (by kernel_rfl) (by kernel_rfl) (fun _ _ _ h => h) (by rfl) ?y16a (by assumption) ?_
              case y16a =>
                intro w hSw
                try dsimp only at hSw
                go_simp
                try with_reducible rfl
              simp only [List.set_cons_zero, List.set_cons_succ]
              refine wpAnyH_done (by kernel_rfl) ?_ _
              have hb9 := hHeld.1
              clear hHeld
              go_wp2_with fail
              go_roundw
              case rel => exact ⟨j + 1, by omega, by go_num, Lib.hid (Hnx.out (by rw [HP.out]; rfl)), Lib.hid (Hat.out.below hb9), below_step hbwV hb9⟩
              case measure => simp [intOf]; omega
            · rw [hp] at HP x4
              have HS := Lib.hid (show ∀ w', Below V.heap.size V w' → (Below V.heap.size V w' ∧ w'.cell? ⟨X, 0, none⟩ = some (.string Fc.who) ∧ w'.cell? ⟨X, 1, none⟩ = some (.slice xa Fc.pos.length xc) ∧ w'.cell? ⟨X, 2, none⟩ = some (.int .i64 Fc.num) ∧ w'.cell? ⟨X, 3, none⟩ = some (.int .i64 Fc.den) ∧ w'.cell? ⟨X, 4, none⟩ = some (.bool true) ∧ w'.cell? ⟨g', off' + k * 2, none⟩ = some (.string s.key) ∧ w'.cell? ⟨g', off' + k * 2 + 1, none⟩ = some (.slice pa s.pos.length pc)) from fun w' hb => ⟨hb, below_cell hb x0, below_cell hb x1, below_cell hb x2, below_cell hb x3, below_cell hb x4, below_cell hb c0, below_cell hb c1⟩)
              clear x0 x1 x2 x3 x4 c0 c1
              cases hfit : suitB Fc s
              · rw [hfit] at HP
                have Hfit := Lib.hid ((suit_fit Fc s).symm.trans hfit)
                clear hp hfit
                show Code.wp _ (Code.region 11 ops_43_11 true) _ _ _
                refine region_start 17 (fun w' => Below V.heap.size V w' ∧ w'.cell? ⟨X, 0, none⟩ = some (.string Fc.who) ∧ w'.cell? ⟨X, 1, none⟩ = some (.slice xa Fc.pos.length xc) ∧ w'.cell? ⟨X, 2, none⟩ = some (.int .i64 Fc.num) ∧ w'.cell? ⟨X, 3, none⟩ = some (.int .i64 Fc.den) ∧ w'.cell? ⟨X, 4, none⟩ = some (.bool true) ∧ w'.cell? ⟨g', off' + k * 2, none⟩ = some (.string s.key) ∧ w'.cell? ⟨g', off' + k * 2 + 1, none⟩ = some (.slice pa s.pos.length pc)) (by kernel_rfl) rfl ?_ (fun hHeld => ?_)
                · (exact HS.out _ (by first | assumption | exact hHeld.1 | exact below_step hHeld.1 (by assumption) | exact below_step hHeld.1 (below_alloc _ _)))
                refine take_to 0 50 #[true, false, false, false, false, false, false, false, false, false, false, false, false, false, false, false, false] (v := ?_) ops_43_11_0 rfl ops_43_11_ns (by kernel_rfl) (by kernel_rfl) (fun _ _ _ h => h) (by rfl) ?y0b (by assumption) ?_
                case y0b =>
                  intro w hSw
                  try dsimp only at hSw
                  go_simp
                  try with_reducible rfl
                simp only [List.set_cons_zero, List.set_cons_succ]
                refine take_to 1 51 #[true, true, false, false, false, false, false, false, false, false, false, false, false, false, false, false, false] (v := ?_) ops_43_11_1 rfl ops_43_11_ns (by kernel_rfl) (by kernel_rfl) (fun _ _ _ h => h) (by rfl) ?y1b (by assumption) ?_
                case y1b =>
                  intro w hSw
                  try dsimp only at hSw
                  go_simp
                  try with_reducible rfl
                simp only [List.set_cons_zero, List.set_cons_succ]
                refine take_to 2 52 #[true, true, true, false, false, false, false, false, false, false, false, false, false, false, false, false, false] (v := ?_) ops_43_11_2 rfl ops_43_11_ns (by kernel_rfl) (by kernel_rfl) (fun _ _ _ h => h) (by rfl) ?y2b (by assumption) ?_
                case y2b =>
                  intro w hSw
                  try dsimp only at hSw
                  go_simp
                  try with_reducible rfl
                simp only [List.set_cons_zero, List.set_cons_succ]
                refine take_to 3 53 #[true, true, true, true, false, false, false, false, false, false, false, false, false, false, false, false, false] (v := ?_) ops_43_11_3 rfl ops_43_11_ns (by kernel_rfl) (by kernel_rfl) (fun _ _ _ h => h) (by rfl) ?y3b (by assumption) ?_
                case y3b =>
                  intro w hSw
                  try dsimp only at hSw
                  go_simp
                  try with_reducible rfl
                simp only [List.set_cons_zero, List.set_cons_succ]
                refine take_to 4 54 #[true, true, true, true, true, false, false, false, false, false, false, false, false, false, false, false, false] (v := ?_) ops_43_11_4 rfl ops_43_11_ns (by kernel_rfl) (by kernel_rfl) (fun _ _ _ h => h) (by rfl) ?y4b (by assumption) ?_
                case y4b =>
                  intro w hSw
                  try dsimp only at hSw
                  go_simp
                  try with_reducible rfl
                simp only [List.set_cons_zero, List.set_cons_succ]
                refine take_to 5 55 #[true, true, true, true, true, true, false, false, false, false, false, false, false, false, false, false, false] (v := ?_) ops_43_11_5 rfl ops_43_11_ns (by kernel_rfl) (by kernel_rfl) (fun _ _ _ h => h) (by rfl) ?y5b (by assumption) ?_
                case y5b =>
                  intro w hSw
                  try dsimp only at hSw
                  go_simp
                  try with_reducible rfl
                simp only [List.set_cons_zero, List.set_cons_succ]
                refine take_to 6 56 #[true, true, true, true, true, true, true, false, false, false, false, false, false, false, false, false, false] (v := ?_) ops_43_11_6 rfl ops_43_11_ns (by kernel_rfl) (by kernel_rfl) (fun _ _ _ h => h) (by rfl) ?y6b (by assumption) ?_
                case y6b =>
                  intro w hSw
                  try dsimp only at hSw
                  go_simp
                  try with_reducible rfl
                simp only [List.set_cons_zero, List.set_cons_succ]
                refine take_to 7 57 #[true, true, true, true, true, true, true, true, false, false, false, false, false, false, false, false, false] (v := ?_) ops_43_11_7 rfl ops_43_11_ns (by kernel_rfl) (by kernel_rfl) (fun _ _ _ h => h) (by rfl) ?y7b (by assumption) ?_
                case y7b =>
                  intro w hSw
                  try dsimp only at hSw
                  go_simp
                  try with_reducible rfl
                simp only [List.set_cons_zero, List.set_cons_succ]
                refine run_to 8 #[true, true, true, true, true, true, true, true, true, false, false, false, false, false, false, false, false] ops_43_11_8 (by kernel_rfl) (by kernel_rfl) (by rfl) (fun K hK => ?_)
                go_simp
                refine (fit_calls _ _ (.slice xa Fc.pos.length xc) (.slice pa s.pos.length pc) { Fc with played := true } s _ (Hcv.out.below (hbwV.trans (hHeld.1.mono hbwV.size))) (Hpv.out.below (hbwV.trans (hHeld.1.mono hbwV.size)))).mono ?_
                rintro e w' ⟨rfl, hb⟩
                rw [show fitB s { Fc with played := true } = fitB s Fc from rfl, Hfit.out]
                go_wp2_with fail
                refine hK.out _ _ ?_ (fun hHeld => ?_)
                · (exact HS.out _ (by first | assumption | exact hHeld.1 | exact below_step hHeld.1 (by assumption) | exact below_step hHeld.1 (below_alloc _ _)))
                clear hK K
                try simp only [Act.put, List.setIfInBounds_toArray, List.set_cons_zero, List.set_cons_succ]
                refine take_to 9 59 #[true, true, true, true, true, true, true, true, true, true, false, false, false, false, false, false, false] (v := ?_) ops_43_11_9 rfl ops_43_11_ns (by kernel_rfl) (by kernel_rfl) (fun _ _ _ h => h) (by rfl) ?y9b (by assumption) ?_
                case y9b =>
                  intro w hSw
                  try dsimp only at hSw
                  go_simp
                  try with_reducible rfl
                simp only [List.set_cons_zero, List.set_cons_succ]
                refine take_to 10 60 #[true, true, true, true, true, true, true, true, true, true, true, false, false, false, false, false, false] (v := ?_) ops_43_11_10 rfl ops_43_11_ns (by kernel_rfl) (by kernel_rfl) (fun _ _ _ h => h) (by rfl) ?y10b (by assumption) ?_
                case y10b =>
                  intro w hSw
                  try dsimp only at hSw
                  go_simp
                  try with_reducible rfl
                simp only [List.set_cons_zero, List.set_cons_succ]
                refine skip_to 11 61 #[true, true, true, true, true, true, true, true, true, true, true, true, false, false, false, false, false] ops_43_11_11 rfl ops_43_11_ns (by kernel_rfl) (by kernel_rfl) (fun _ _ _ h => h) (by rfl) (by assumption) ?_
                simp only [List.set_cons_zero, List.set_cons_succ]
                refine skip_to 12 62 #[true, true, true, true, true, true, true, true, true, true, true, true, true, false, false, false, false] ops_43_11_12 rfl ops_43_11_ns (by kernel_rfl) (by kernel_rfl) (fun _ _ _ h => h) (by rfl) (by assumption) ?_
                simp only [List.set_cons_zero, List.set_cons_succ]
                refine skip_to 13 63 #[true, true, true, true, true, true, true, true, true, true, true, true, true, true, false, false, false] ops_43_11_13 rfl ops_43_11_ns (by kernel_rfl) (by kernel_rfl) (fun _ _ _ h => h) (by rfl) (by assumption) ?_
                simp only [List.set_cons_zero, List.set_cons_succ]
                refine skip_to 14 64 #[true, true, true, true, true, true, true, true, true, true, true, true, true, true, true, false, false] ops_43_11_14 rfl ops_43_11_ns (by kernel_rfl) (by kernel_rfl) (fun _ _ _ h => h) (by rfl) (by assumption) ?_
                simp only [List.set_cons_zero, List.set_cons_succ]
                refine skip_to 15 65 #[true, true, true, true, true, true, true, true, true, true, true, true, true, true, true, true, false] ops_43_11_15 rfl ops_43_11_ns (by kernel_rfl) (by kernel_rfl) (fun _ _ _ h => h) (by rfl) (by assumption) ?_
                simp only [List.set_cons_zero, List.set_cons_succ]
                refine take_to 16 66 #[true, true, true, true, true, true, true, true, true, true, true, true, true, true, true, true, true] (v := ?_) ops_43_11_16 rfl ops_43_11_ns (by kernel_rfl) (by kernel_rfl) (fun _ _ _ h => h) (by rfl) ?y16b (by assumption) ?_
                case y16b =>
                  intro w hSw
                  try dsimp only at hSw
                  go_simp
                  try with_reducible rfl
                simp only [List.set_cons_zero, List.set_cons_succ]
                refine wpAnyH_done (by kernel_rfl) ?_ _
                have hb9 := hHeld.1
                clear hHeld
                go_wp2_with fail
                go_roundw
                case rel => exact ⟨j + 1, by omega, by go_num, Lib.hid (Hnx.out (by rw [HP.out]; rfl)), Lib.hid (Hat.out.below hb9), below_step hbwV hb9⟩
                case measure => simp [intOf]; omega
              · rw [hfit] at HP
                have Hfit := Lib.hid ((suit_fit Fc s).symm.trans hfit)
                clear hp hfit
                have HFi := Lib.hid (show ∀ w', Below V.heap.size V w' → Fis w' 0 (.slice (some ⟨g, 0, none⟩) fs.length cap) F from fun w' hb => by
                  have h := (Hat.out.below hb).rows (lo := 0) (cap := cap) (by rw [List.length_map, HFl.out]; exact Hbig.out) (Nat.zero_le _) (by rw [List.length_map, HFl.out]; exact hle)
                  rw [List.length_map, HFl.out] at h
                  exact h)
                show Code.wp _ (Code.region 11 ops_43_11 true) _ _ _
                refine region_start 17 (fun w' => Below V.heap.size V w' ∧ w'.cell? ⟨X, 0, none⟩ = some (.string Fc.who) ∧ w'.cell? ⟨X, 1, none⟩ = some (.slice xa Fc.pos.length xc) ∧ w'.cell? ⟨X, 2, none⟩ = some (.int .i64 Fc.num) ∧ w'.cell? ⟨X, 3, none⟩ = some (.int .i64 Fc.den) ∧ w'.cell? ⟨X, 4, none⟩ = some (.bool true) ∧ w'.cell? ⟨g', off' + k * 2, none⟩ = some (.string s.key) ∧ w'.cell? ⟨g', off' + k * 2 + 1, none⟩ = some (.slice pa s.pos.length pc)) (by kernel_rfl) rfl ?_ (fun hHeld => ?_)
                · (exact HS.out _ (by first | assumption | exact hHeld.1 | exact below_step hHeld.1 (by assumption) | exact below_step hHeld.1 (below_alloc _ _)))
                refine take_to 0 50 #[true, false, false, false, false, false, false, false, false, false, false, false, false, false, false, false, false] (v := ?_) ops_43_11_0 rfl ops_43_11_ns (by kernel_rfl) (by kernel_rfl) (fun _ _ _ h => h) (by rfl) ?y0c (by assumption) ?_
                case y0c =>
                  intro w hSw
                  try dsimp only at hSw
                  go_simp
                  try with_reducible rfl
                simp only [List.set_cons_zero, List.set_cons_succ]
                refine take_to 1 51 #[true, true, false, false, false, false, false, false, false, false, false, false, false, false, false, false, false] (v := ?_) ops_43_11_1 rfl ops_43_11_ns (by kernel_rfl) (by kernel_rfl) (fun _ _ _ h => h) (by rfl) ?y1c (by assumption) ?_
                case y1c =>
                  intro w hSw
                  try dsimp only at hSw
                  go_simp
                  try with_reducible rfl
                simp only [List.set_cons_zero, List.set_cons_succ]
                refine take_to 2 52 #[true, true, true, false, false, false, false, false, false, false, false, false, false, false, false, false, false] (v := ?_) ops_43_11_2 rfl ops_43_11_ns (by kernel_rfl) (by kernel_rfl) (fun _ _ _ h => h) (by rfl) ?y2c (by assumption) ?_
                case y2c =>
                  intro w hSw
                  try dsimp only at hSw
                  go_simp
                  try with_reducible rfl
                simp only [List.set_cons_zero, List.set_cons_succ]
                refine take_to 3 53 #[true, true, true, true, false, false, false, false, false, false, false, false, false, false, false, false, false] (v := ?_) ops_43_11_3 rfl ops_43_11_ns (by kernel_rfl) (by kernel_rfl) (fun _ _ _ h => h) (by rfl) ?y3c (by assumption) ?_
                case y3c =>
                  intro w hSw
                  try dsimp only at hSw
                  go_simp
                  try with_reducible rfl
                simp only [List.set_cons_zero, List.set_cons_succ]
                refine take_to 4 54 #[true, true, true, true, true, false, false, false, false, false, false, false, false, false, false, false, false] (v := ?_) ops_43_11_4 rfl ops_43_11_ns (by kernel_rfl) (by kernel_rfl) (fun _ _ _ h => h) (by rfl) ?y4c (by assumption) ?_
                case y4c =>
                  intro w hSw
                  try dsimp only at hSw
                  go_simp
                  try with_reducible rfl
                simp only [List.set_cons_zero, List.set_cons_succ]
                refine take_to 5 55 #[true, true, true, true, true, true, false, false, false, false, false, false, false, false, false, false, false] (v := ?_) ops_43_11_5 rfl ops_43_11_ns (by kernel_rfl) (by kernel_rfl) (fun _ _ _ h => h) (by rfl) ?y5c (by assumption) ?_
                case y5c =>
                  intro w hSw
                  try dsimp only at hSw
                  go_simp
                  try with_reducible rfl
                simp only [List.set_cons_zero, List.set_cons_succ]
                refine take_to 6 56 #[true, true, true, true, true, true, true, false, false, false, false, false, false, false, false, false, false] (v := ?_) ops_43_11_6 rfl ops_43_11_ns (by kernel_rfl) (by kernel_rfl) (fun _ _ _ h => h) (by rfl) ?y6c (by assumption) ?_
                case y6c =>
                  intro w hSw
                  try dsimp only at hSw
                  go_simp
                  try with_reducible rfl
                simp only [List.set_cons_zero, List.set_cons_succ]
                refine take_to 7 57 #[true, true, true, true, true, true, true, true, false, false, false, false, false, false, false, false, false] (v := ?_) ops_43_11_7 rfl ops_43_11_ns (by kernel_rfl) (by kernel_rfl) (fun _ _ _ h => h) (by rfl) ?y7c (by assumption) ?_
                case y7c =>
                  intro w hSw
                  try dsimp only at hSw
                  go_simp
                  try with_reducible rfl
                simp only [List.set_cons_zero, List.set_cons_succ]
                refine run_to 8 #[true, true, true, true, true, true, true, true, true, false, false, false, false, false, false, false, false] ops_43_11_8 (by kernel_rfl) (by kernel_rfl) (by rfl) (fun K hK => ?_)
                go_simp
                refine (fit_calls _ _ (.slice xa Fc.pos.length xc) (.slice pa s.pos.length pc) { Fc with played := true } s _ (Hcv.out.below (hbwV.trans (hHeld.1.mono hbwV.size))) (Hpv.out.below (hbwV.trans (hHeld.1.mono hbwV.size)))).mono ?_
                rintro e w' ⟨rfl, hb⟩
                rw [show fitB s { Fc with played := true } = fitB s Fc from rfl, Hfit.out]
                go_wp2_with fail
                refine hK.out _ _ ?_ (fun hHeld => ?_)
                · (exact HS.out _ (by first | assumption | exact hHeld.1 | exact below_step hHeld.1 (by assumption) | exact below_step hHeld.1 (below_alloc _ _)))
                clear hK K
                try simp only [Act.put, List.setIfInBounds_toArray, List.set_cons_zero, List.set_cons_succ]
                refine take_to 9 59 #[true, true, true, true, true, true, true, true, true, true, false, false, false, false, false, false, false] (v := ?_) ops_43_11_9 rfl ops_43_11_ns (by kernel_rfl) (by kernel_rfl) (fun _ _ _ h => h) (by rfl) ?y9c (by assumption) ?_
                case y9c =>
                  intro w hSw
                  try dsimp only at hSw
                  go_simp
                  try with_reducible rfl
                simp only [List.set_cons_zero, List.set_cons_succ]
                refine take_to 10 60 #[true, true, true, true, true, true, true, true, true, true, true, false, false, false, false, false, false] (v := ?_) ops_43_11_10 rfl ops_43_11_ns (by kernel_rfl) (by kernel_rfl) (fun _ _ _ h => h) (by rfl) ?y10c (by assumption) ?_
                case y10c =>
                  intro w hSw
                  try dsimp only at hSw
                  go_simp
                  try with_reducible rfl
                simp only [List.set_cons_zero, List.set_cons_succ]
                refine take_to 11 61 #[true, true, true, true, true, true, true, true, true, true, true, true, false, false, false, false, false] (v := ?_) ops_43_11_11 rfl ops_43_11_ns (by kernel_rfl) (by kernel_rfl) (fun _ _ _ h => h) (by rfl) ?y11c (by assumption) ?_
                case y11c =>
                  intro w hSw
                  try dsimp only at hSw
                  go_simp
                  try with_reducible rfl
                simp only [List.set_cons_zero, List.set_cons_succ]
                refine take_to 12 62 #[true, true, true, true, true, true, true, true, true, true, true, true, true, false, false, false, false] (v := ?_) ops_43_11_12 rfl ops_43_11_ns (by kernel_rfl) (by kernel_rfl) (fun _ _ _ h => h) (by rfl) ?y12c (by assumption) ?_
                case y12c =>
                  intro w hSw
                  try dsimp only at hSw
                  go_simp
                  try with_reducible rfl
                simp only [List.set_cons_zero, List.set_cons_succ]
                refine take_to 14 64 #[true, true, true, true, true, true, true, true, true, true, true, true, true, false, true, false, false] (v := ?_) ops_43_11_14 rfl ops_43_11_ns (by kernel_rfl) (by kernel_rfl) (fun _ _ _ h => h) (by rfl) ?y14c (by assumption) ?_
                case y14c =>
                  intro w hSw
                  try dsimp only at hSw
                  go_simp
                  try with_reducible rfl
                simp only [List.set_cons_zero, List.set_cons_succ]
                refine run_to 13 #[true, true, true, true, true, true, true, true, true, true, true, true, true, true, true, false, false] ops_43_11_13 (by kernel_rfl) (by kernel_rfl) (by rfl) (fun K hK => ?_)
                go_simp
                refine (benchOf_calls lo 0 _ _ cs F _ (NRows.below HC0.out (hbwV.trans (hHeld.1.mono hbwV.size))) (HFi.out _ hHeld.1) hcn).mono ?_
                rintro e w' ⟨bv, rfl, hown, hb⟩
                have hBn := strs_of_owns hown (Nat.le_trans (bnOf_len cs F) (by omega))
                obtain ⟨oa, oc, rfl⟩ := strs_shape hBn
                clear hown
                go_wp2_with fail
                refine hK.out _ _ ?_ (fun hHeld => ?_)
                · (exact HS.out _ (by first | assumption | exact hHeld.1 | exact below_step hHeld.1 (by assumption) | exact below_step hHeld.1 (below_alloc _ _)))
                clear hK K
                try simp only [Act.put, List.setIfInBounds_toArray, List.set_cons_zero, List.set_cons_succ]
                refine run_to 15 #[true, true, true, true, true, true, true, true, true, true, true, true, true, true, true, true, false] ops_43_11_15 (by kernel_rfl) (by kernel_rfl) (by rfl) (fun K hK => ?_)
                go_simp
                refine (contains_calls _ _ (bnOf cs F) b _ hBn).mono ?_
                rintro e w' ⟨rfl, rfl⟩
                rw [Hcn.out]
                go_wp2_with fail
                refine hK.out _ _ ?_ (fun hHeld => ?_)
                · (exact HS.out _ (by first | assumption | exact hHeld.1 | exact below_step hHeld.1 (by assumption) | exact below_step hHeld.1 (below_alloc _ _)))
                clear hK K
                try simp only [Act.put, List.setIfInBounds_toArray, List.set_cons_zero, List.set_cons_succ]
                refine take_to 16 66 #[true, true, true, true, true, true, true, true, true, true, true, true, true, true, true, true, true] (v := ?_) ops_43_11_16 rfl ops_43_11_ns (by kernel_rfl) (by kernel_rfl) (fun _ _ _ h => h) (by rfl) ?y16c (by assumption) ?_
                case y16c =>
                  intro w hSw
                  try dsimp only at hSw
                  go_simp
                  try with_reducible rfl
                simp only [List.set_cons_zero, List.set_cons_succ]
                refine wpAnyH_done (by kernel_rfl) ?_ _
                have hb9 := hHeld.1
                clear hHeld
                cases hin : inF F b
                · rw [hin] at HP
                  have Hst' := Lib.hid (Hst.out (by rw [HP.out]; rfl))
                  have Hat9 := Lib.hid (Hat.out.below hb9)
                  have f1 := Hat9.out.free (k * 2 + 1)
                  have q1 := Hat9.out.cell (i := k) (j := 1) (r := fiRow f) (u := .string f.who) (by simp [Hf.out]) rfl
                  rw [Nat.zero_add] at q1
                  have hset := Hat9.out.set (i := k) (f := 1) (row := fiRow f) (by simp [Hf.out]) (by omega) (.string b)
                  rw [show (fiRow f).set 1 (.string b) = fiRow ⟨f.slot, b⟩ from rfl, ← List.map_set, Nat.zero_add] at hset
                  have Hset := Lib.hid hset
                  clear hin hset
                  go_wp2_with fail
                  go_roundw
                  case rel => exact ⟨k + 1, by omega, by go_num, by rw [Hnext.out, Hst'.out]; exact Hset, below_set (below_step hbwV hb9) hgw _⟩
                  case measure => simp [intOf]; omega
                · rw [hin] at HP
                  clear hin
                  go_wp2_with fail
                  go_roundw
                  case rel => exact ⟨j + 1, by omega, by go_num, Lib.hid (Hnx.out (by rw [HP.out]; rfl)), Lib.hid (Hat.out.below hb9), below_step hbwV hb9⟩
                  case measure => simp [intOf]; omega
          · obtain rfl : j = ks.length := by omega
            have Hst := Lib.hid (sb_none (s := s) (ks := ks) (i := k) Hf.out Hp.out (fun x hx => by
              obtain ⟨q, hq⟩ := List.getElem?_of_mem hx
              exact Hbef.out q x (List.getElem?_eq_some_iff.1 hq).1 hq))
            go_wp2_with fail
            go_roundw
            case rel => exact ⟨k + 1, by omega, by go_num, by rw [Hnext.out, Hst.out]; exact Hat, hb⟩
            case measure => simp [intOf]; omega
      · obtain ⟨Fq, hFq⟩ : ∃ Fq, Fq = fndC cs f.who := ⟨_, rfl⟩
        rcases scs_at HC0.out with ⟨_, h⟩ | ⟨cg, coff, ccap, e, _, hcg, _, hcell⟩
        · have := known_mem hkn'; rw [h] at this; simp at this
        simp only [Value.slice.injEq] at e
        obtain ⟨rfl, -, rfl⟩ := e
        have hqn' : (q : Int) < (cs.length : Int) := by have := (List.getElem?_eq_some_iff.1 hcq).1; omega
        obtain ⟨_, -, -, -, -, r4, -⟩ := hcell q _ hcq
        have r4 := below_cell hbw1 r4
        have HFq := Lib.hid hFq
        rw [← hFq] at r4
        have Hcell := Lib.hid hcell
        clear hcell hkn' hcq hFq
        cases hp : Fq.played
        · have Hp := Lib.hid (show (fndC cs f.who).played = false by rw [← HFq.out]; exact hp)
          rw [hp] at r4
          clear hp
          go_wp2_with fail
          clear r4
          go_loopw [40] (fun i wq => ∃ j : Nat, j ≤ ks.length ∧ i = .int .i64 j ∧ Hid (∀ q b, q < j → ks[q]? = some b → sbP cs s F b = false) ∧ Hid (RowsAt wq 49 g 0 2 (F.map fiRow)) ∧ Below w.heap.size w wq) (fun i _ => ks.length - (intOf i).toNat)
          case atStart => exact ⟨0, Nat.zero_le _, rfl, Lib.hid (fun q b h => by omega), Hat, hbw1⟩
          case round =>
            clear Hat hbw1
            obtain ⟨j, hj, rfl, Hbef, Hat, hb⟩ := hrel
            by_cases hlj : j < ks.length
            · obtain ⟨b, hbj⟩ : ∃ b, ks[j]? = some b := ⟨_, List.getElem?_eq_getElem hlj⟩
              have Hbj := Lib.hid hbj
              have Hkb := Lib.hid (Hkn.out b (List.mem_of_getElem? hbj))
              have Hnx := Lib.hid (fun (h : sbP cs s F b = false) q b' (hq : q < j + 1) (hb' : ks[q]? = some b') => (show sbP cs s F b' = false by
                rcases Nat.lt_succ_iff_lt_or_eq.1 hq with h' | rfl
                · exact Hbef.out q b' h' hb'
                · rw [Hbj.out] at hb'; cases hb'; exact h))
              have Hst := Lib.hid (fun (h : sbP cs s F b = true) => sb_some (i := k) Hf.out Hp.out Hbj.out h Hbef.out)
              rcases strs_at HK0.out with ⟨_, h⟩ | ⟨kg, koff, kcap, e, _, hkg, _, hkc⟩
              · rw [h] at hlj; simp at hlj
              simp only [Value.slice.injEq] at e
              obtain ⟨rfl, -, rfl⟩ := e
              have k0 := below_cell hb (hkc j b hbj)
              have hlj' : (j : Int) < (ks.length : Int) := by omega
              clear hbj hkc
              go_wp2_with fail
              refine (scorerAt_calls lo _ cs b wr (NRows.below HC0.out hb)).mono ?_
              rintro e w3 hat
              have hb3 := hat.2
              obtain ⟨kv, rfl, hkv⟩ := at_of Hsort.out hat
              clear hat k0
              rcases hkv with ⟨rfl, hkf⟩ | ⟨q, rfl, hcq, -⟩
              · have := Hkb.out; rw [hkf] at this; cases this
              have hbw3 := below_step hb hb3
              have hqn' : (q : Int) < (cs.length : Int) := by have := (List.getElem?_eq_some_iff.1 hcq).1; omega
              obtain ⟨cv, r0, r1, r2, r3, r4, hcv⟩ := Hcell.out q _ hcq
              have HP := Lib.hid (show sbP cs s F b = ((fndC cs b).played && suitB (fndC cs b) s && !inF F b) from rfl)
              have Hcn := Lib.hid (bn_cn (fs := F) Hkb.out)
              generalize fndC cs b = Fc at HP r0 r1 r2 r3 r4 hcv
              have Hcv := Lib.hid hcv
              obtain ⟨xa, xc, rfl⟩ := strs_shape hcv
              have r0 := below_cell hbw3 r0
              have r1 := below_cell hbw3 r1
              have r2 := below_cell hbw3 r2
              have r3 := below_cell hbw3 r3
              have r4 := below_cell hbw3 r4
              have Hat := Lib.hid (Hat.out.below hb3)
              clear hcv hcq hb hb3
              go_upto_region 11 with fail
              obtain ⟨V, hV⟩ : ∃ V, V = w3.alloc (.cells #[.string Fc.who, .slice xa Fc.pos.length xc, .int .i64 Fc.num, .int .i64 Fc.den, .bool Fc.played] 83) := ⟨_, rfl⟩
              have hb3V : Below w3.heap.size w3 V := by rw [hV]; exact below_alloc w3 _
              have hx14 : V.heap[w3.heap.size]? = some (.cells #[.string Fc.who, .slice xa Fc.pos.length xc, .int .i64 Fc.num, .int .i64 Fc.den, .bool Fc.played] 83 (0, 0)) := by rw [hV]; exact heap_alloc_new w3 _
              rw [← hV]
              have hbwV := below_step hbw3 hb3V
              have Hat := Lib.hid (Hat.out.below hb3V)
              have x0 := cell_at hx14 0 rfl
              have x1 := cell_at hx14 1 rfl
              have x2 := cell_at hx14 2 rfl
              have x3 := cell_at hx14 3 rfl
              have x4 := cell_at hx14 4 rfl
              have c0 := below_cell hbwV Hs0.out
              have c1 := below_cell hbwV Hs1.out
              generalize hX : w3.heap.size = X at x0 x1 x2 x3 x4 ⊢
              have hb0 := (Below.refl V.heap.size V).drew
              clear hV hx14 hb3V hX r0 r1 r2 r3 r4 hbw3
              cases hp : Fc.played
              · rw [hp] at HP x4
                have HS := Lib.hid (show ∀ w', Below V.heap.size V w' → (Below V.heap.size V w' ∧ w'.cell? ⟨X, 0, none⟩ = some (.string Fc.who) ∧ w'.cell? ⟨X, 1, none⟩ = some (.slice xa Fc.pos.length xc) ∧ w'.cell? ⟨X, 2, none⟩ = some (.int .i64 Fc.num) ∧ w'.cell? ⟨X, 3, none⟩ = some (.int .i64 Fc.den) ∧ w'.cell? ⟨X, 4, none⟩ = some (.bool false) ∧ w'.cell? ⟨g', off' + k * 2, none⟩ = some (.string s.key) ∧ w'.cell? ⟨g', off' + k * 2 + 1, none⟩ = some (.slice pa s.pos.length pc)) from fun w' hb => ⟨hb, below_cell hb x0, below_cell hb x1, below_cell hb x2, below_cell hb x3, below_cell hb x4, below_cell hb c0, below_cell hb c1⟩)
                clear x0 x1 x2 x3 x4 c0 c1 hp
                show Code.wp _ (Code.region 11 ops_43_11 true) _ _ _
                refine region_start 17 (fun w' => Below V.heap.size V w' ∧ w'.cell? ⟨X, 0, none⟩ = some (.string Fc.who) ∧ w'.cell? ⟨X, 1, none⟩ = some (.slice xa Fc.pos.length xc) ∧ w'.cell? ⟨X, 2, none⟩ = some (.int .i64 Fc.num) ∧ w'.cell? ⟨X, 3, none⟩ = some (.int .i64 Fc.den) ∧ w'.cell? ⟨X, 4, none⟩ = some (.bool false) ∧ w'.cell? ⟨g', off' + k * 2, none⟩ = some (.string s.key) ∧ w'.cell? ⟨g', off' + k * 2 + 1, none⟩ = some (.slice pa s.pos.length pc)) (by kernel_rfl) rfl ?_ (fun hHeld => ?_)
                · (exact HS.out _ (by first | assumption | exact hHeld.1 | exact below_step hHeld.1 (by assumption) | exact below_step hHeld.1 (below_alloc _ _)))
                refine take_to 0 50 #[true, false, false, false, false, false, false, false, false, false, false, false, false, false, false, false, false] (v := ?_) ops_43_11_0 rfl ops_43_11_ns (by kernel_rfl) (by kernel_rfl) (fun _ _ _ h => h) (by rfl) ?y0a (by assumption) ?_
                case y0a =>
                  intro w hSw
                  try dsimp only at hSw
                  go_simp
                  try with_reducible rfl
                simp only [List.set_cons_zero, List.set_cons_succ]
                refine take_to 1 51 #[true, true, false, false, false, false, false, false, false, false, false, false, false, false, false, false, false] (v := ?_) ops_43_11_1 rfl ops_43_11_ns (by kernel_rfl) (by kernel_rfl) (fun _ _ _ h => h) (by rfl) ?y1a (by assumption) ?_
                case y1a =>
                  intro w hSw
                  try dsimp only at hSw
                  go_simp
                  try with_reducible rfl
                simp only [List.set_cons_zero, List.set_cons_succ]
                refine take_to 2 52 #[true, true, true, false, false, false, false, false, false, false, false, false, false, false, false, false, false] (v := ?_) ops_43_11_2 rfl ops_43_11_ns (by kernel_rfl) (by kernel_rfl) (fun _ _ _ h => h) (by rfl) ?y2a (by assumption) ?_
                case y2a =>
                  intro w hSw
                  try dsimp only at hSw
                  go_simp
                  try with_reducible rfl
                simp only [List.set_cons_zero, List.set_cons_succ]
                refine skip_to 3 53 #[true, true, true, true, false, false, false, false, false, false, false, false, false, false, false, false, false] ops_43_11_3 rfl ops_43_11_ns (by kernel_rfl) (by kernel_rfl) (fun _ _ _ h => h) (by rfl) (by assumption) ?_
                simp only [List.set_cons_zero, List.set_cons_succ]
                refine skip_to 4 54 #[true, true, true, true, true, false, false, false, false, false, false, false, false, false, false, false, false] ops_43_11_4 rfl ops_43_11_ns (by kernel_rfl) (by kernel_rfl) (fun _ _ _ h => h) (by rfl) (by assumption) ?_
                simp only [List.set_cons_zero, List.set_cons_succ]
                refine skip_to 5 55 #[true, true, true, true, true, true, false, false, false, false, false, false, false, false, false, false, false] ops_43_11_5 rfl ops_43_11_ns (by kernel_rfl) (by kernel_rfl) (fun _ _ _ h => h) (by rfl) (by assumption) ?_
                simp only [List.set_cons_zero, List.set_cons_succ]
                refine skip_to 6 56 #[true, true, true, true, true, true, true, false, false, false, false, false, false, false, false, false, false] ops_43_11_6 rfl ops_43_11_ns (by kernel_rfl) (by kernel_rfl) (fun _ _ _ h => h) (by rfl) (by assumption) ?_
                simp only [List.set_cons_zero, List.set_cons_succ]
                refine skip_to 7 57 #[true, true, true, true, true, true, true, true, false, false, false, false, false, false, false, false, false] ops_43_11_7 rfl ops_43_11_ns (by kernel_rfl) (by kernel_rfl) (fun _ _ _ h => h) (by rfl) (by assumption) ?_
                simp only [List.set_cons_zero, List.set_cons_succ]
                refine skip_to 8 58 #[true, true, true, true, true, true, true, true, true, false, false, false, false, false, false, false, false] ops_43_11_8 rfl ops_43_11_ns (by kernel_rfl) (by kernel_rfl) (fun _ _ _ h => h) (by rfl) (by assumption) ?_
                simp only [List.set_cons_zero, List.set_cons_succ]
                refine take_to 9 59 #[true, true, true, true, true, true, true, true, true, true, false, false, false, false, false, false, false] (v := ?_) ops_43_11_9 rfl ops_43_11_ns (by kernel_rfl) (by kernel_rfl) (fun _ _ _ h => h) (by rfl) ?y9a (by assumption) ?_
                case y9a =>
                  intro w hSw
                  try dsimp only at hSw
                  go_simp
                  try with_reducible rfl
                simp only [List.set_cons_zero, List.set_cons_succ]
                refine take_to 10 60 #[true, true, true, true, true, true, true, true, true, true, true, false, false, false, false, false, false] (v := ?_) ops_43_11_10 rfl ops_43_11_ns (by kernel_rfl) (by kernel_rfl) (fun _ _ _ h => h) (by rfl) ?y10a (by assumption) ?_
                case y10a =>
                  intro w hSw
                  try dsimp only at hSw
                  go_simp
                  try with_reducible rfl
                simp only [List.set_cons_zero, List.set_cons_succ]
                refine skip_to 11 61 #[true, true, true, true, true, true, true, true, true, true, true, true, false, false, false, false, false] ops_43_11_11 rfl ops_43_11_ns (by kernel_rfl) (by kernel_rfl) (fun _ _ _ h => h) (by rfl) (by assumption) ?_
                simp only [List.set_cons_zero, List.set_cons_succ]
                refine skip_to 12 62 #[true, true, true, true, true, true, true, true, true, true, true, true, true, false, false, false, false] ops_43_11_12 rfl ops_43_11_ns (by kernel_rfl) (by kernel_rfl) (fun _ _ _ h => h) (by rfl) (by assumption) ?_
                simp only [List.set_cons_zero, List.set_cons_succ]
                refine skip_to 13 63 #[true, true, true, true, true, true, true, true, true, true, true, true, true, true, false, false, false] ops_43_11_13 rfl ops_43_11_ns (by kernel_rfl) (by kernel_rfl) (fun _ _ _ h => h) (by rfl) (by assumption) ?_
                simp only [List.set_cons_zero, List.set_cons_succ]
                refine skip_to 14 64 #[true, true, true, true, true, true, true, true, true, true, true, true, true, true, true, false, false] ops_43_11_14 rfl ops_43_11_ns (by kernel_rfl) (by kernel_rfl) (fun _ _ _ h => h) (by rfl) (by assumption) ?_
                simp only [List.set_cons_zero, List.set_cons_succ]
                refine skip_to 15 65 #[true, true, true, true, true, true, true, true, true, true, true, true, true, true, true, true, false] ops_43_11_15 rfl ops_43_11_ns (by kernel_rfl) (by kernel_rfl) (fun _ _ _ h => h) (by rfl) (by assumption) ?_
                simp only [List.set_cons_zero, List.set_cons_succ]
                refine take_to 16 66 #[true, true, true, true, true, true, true, true, true, true, true, true, true, true, true, true, true] (v := ?_) ops_43_11_16 rfl ops_43_11_ns (by kernel_rfl) (by kernel_rfl) (fun _ _ _ h => h) (by rfl) ?y16a (by assumption) ?_
                case y16a =>
                  intro w hSw
                  try dsimp only at hSw
                  go_simp
                  try with_reducible rfl
                simp only [List.set_cons_zero, List.set_cons_succ]
                refine wpAnyH_done (by kernel_rfl) ?_ _
                have hb9 := hHeld.1
                clear hHeld
                go_wp2_with fail
                go_roundw
                case rel => exact ⟨j + 1, by omega, by go_num, Lib.hid (Hnx.out (by rw [HP.out]; rfl)), Lib.hid (Hat.out.below hb9), below_step hbwV hb9⟩
                case measure => simp [intOf]; omega
              · rw [hp] at HP x4
                have HS := Lib.hid (show ∀ w', Below V.heap.size V w' → (Below V.heap.size V w' ∧ w'.cell? ⟨X, 0, none⟩ = some (.string Fc.who) ∧ w'.cell? ⟨X, 1, none⟩ = some (.slice xa Fc.pos.length xc) ∧ w'.cell? ⟨X, 2, none⟩ = some (.int .i64 Fc.num) ∧ w'.cell? ⟨X, 3, none⟩ = some (.int .i64 Fc.den) ∧ w'.cell? ⟨X, 4, none⟩ = some (.bool true) ∧ w'.cell? ⟨g', off' + k * 2, none⟩ = some (.string s.key) ∧ w'.cell? ⟨g', off' + k * 2 + 1, none⟩ = some (.slice pa s.pos.length pc)) from fun w' hb => ⟨hb, below_cell hb x0, below_cell hb x1, below_cell hb x2, below_cell hb x3, below_cell hb x4, below_cell hb c0, below_cell hb c1⟩)
                clear x0 x1 x2 x3 x4 c0 c1
                cases hfit : suitB Fc s
                · rw [hfit] at HP
                  have Hfit := Lib.hid ((suit_fit Fc s).symm.trans hfit)
                  clear hp hfit
                  show Code.wp _ (Code.region 11 ops_43_11 true) _ _ _
                  refine region_start 17 (fun w' => Below V.heap.size V w' ∧ w'.cell? ⟨X, 0, none⟩ = some (.string Fc.who) ∧ w'.cell? ⟨X, 1, none⟩ = some (.slice xa Fc.pos.length xc) ∧ w'.cell? ⟨X, 2, none⟩ = some (.int .i64 Fc.num) ∧ w'.cell? ⟨X, 3, none⟩ = some (.int .i64 Fc.den) ∧ w'.cell? ⟨X, 4, none⟩ = some (.bool true) ∧ w'.cell? ⟨g', off' + k * 2, none⟩ = some (.string s.key) ∧ w'.cell? ⟨g', off' + k * 2 + 1, none⟩ = some (.slice pa s.pos.length pc)) (by kernel_rfl) rfl ?_ (fun hHeld => ?_)
                  · (exact HS.out _ (by first | assumption | exact hHeld.1 | exact below_step hHeld.1 (by assumption) | exact below_step hHeld.1 (below_alloc _ _)))
                  refine take_to 0 50 #[true, false, false, false, false, false, false, false, false, false, false, false, false, false, false, false, false] (v := ?_) ops_43_11_0 rfl ops_43_11_ns (by kernel_rfl) (by kernel_rfl) (fun _ _ _ h => h) (by rfl) ?y0b (by assumption) ?_
                  case y0b =>
                    intro w hSw
                    try dsimp only at hSw
                    go_simp
                    try with_reducible rfl
                  simp only [List.set_cons_zero, List.set_cons_succ]
                  refine take_to 1 51 #[true, true, false, false, false, false, false, false, false, false, false, false, false, false, false, false, false] (v := ?_) ops_43_11_1 rfl ops_43_11_ns (by kernel_rfl) (by kernel_rfl) (fun _ _ _ h => h) (by rfl) ?y1b (by assumption) ?_
                  case y1b =>
                    intro w hSw
                    try dsimp only at hSw
                    go_simp
                    try with_reducible rfl
                  simp only [List.set_cons_zero, List.set_cons_succ]
                  refine take_to 2 52 #[true, true, true, false, false, false, false, false, false, false, false, false, false, false, false, false, false] (v := ?_) ops_43_11_2 rfl ops_43_11_ns (by kernel_rfl) (by kernel_rfl) (fun _ _ _ h => h) (by rfl) ?y2b (by assumption) ?_
                  case y2b =>
                    intro w hSw
                    try dsimp only at hSw
                    go_simp
                    try with_reducible rfl
                  simp only [List.set_cons_zero, List.set_cons_succ]
                  refine take_to 3 53 #[true, true, true, true, false, false, false, false, false, false, false, false, false, false, false, false, false] (v := ?_) ops_43_11_3 rfl ops_43_11_ns (by kernel_rfl) (by kernel_rfl) (fun _ _ _ h => h) (by rfl) ?y3b (by assumption) ?_
                  case y3b =>
                    intro w hSw
                    try dsimp only at hSw
                    go_simp
                    try with_reducible rfl
                  simp only [List.set_cons_zero, List.set_cons_succ]
                  refine take_to 4 54 #[true, true, true, true, true, false, false, false, false, false, false, false, false, false, false, false, false] (v := ?_) ops_43_11_4 rfl ops_43_11_ns (by kernel_rfl) (by kernel_rfl) (fun _ _ _ h => h) (by rfl) ?y4b (by assumption) ?_
                  case y4b =>
                    intro w hSw
                    try dsimp only at hSw
                    go_simp
                    try with_reducible rfl
                  simp only [List.set_cons_zero, List.set_cons_succ]
                  refine take_to 5 55 #[true, true, true, true, true, true, false, false, false, false, false, false, false, false, false, false, false] (v := ?_) ops_43_11_5 rfl ops_43_11_ns (by kernel_rfl) (by kernel_rfl) (fun _ _ _ h => h) (by rfl) ?y5b (by assumption) ?_
                  case y5b =>
                    intro w hSw
                    try dsimp only at hSw
                    go_simp
                    try with_reducible rfl
                  simp only [List.set_cons_zero, List.set_cons_succ]
                  refine take_to 6 56 #[true, true, true, true, true, true, true, false, false, false, false, false, false, false, false, false, false] (v := ?_) ops_43_11_6 rfl ops_43_11_ns (by kernel_rfl) (by kernel_rfl) (fun _ _ _ h => h) (by rfl) ?y6b (by assumption) ?_
                  case y6b =>
                    intro w hSw
                    try dsimp only at hSw
                    go_simp
                    try with_reducible rfl
                  simp only [List.set_cons_zero, List.set_cons_succ]
                  refine take_to 7 57 #[true, true, true, true, true, true, true, true, false, false, false, false, false, false, false, false, false] (v := ?_) ops_43_11_7 rfl ops_43_11_ns (by kernel_rfl) (by kernel_rfl) (fun _ _ _ h => h) (by rfl) ?y7b (by assumption) ?_
                  case y7b =>
                    intro w hSw
                    try dsimp only at hSw
                    go_simp
                    try with_reducible rfl
                  simp only [List.set_cons_zero, List.set_cons_succ]
                  refine run_to 8 #[true, true, true, true, true, true, true, true, true, false, false, false, false, false, false, false, false] ops_43_11_8 (by kernel_rfl) (by kernel_rfl) (by rfl) (fun K hK => ?_)
                  go_simp
                  refine (fit_calls _ _ (.slice xa Fc.pos.length xc) (.slice pa s.pos.length pc) { Fc with played := true } s _ (Hcv.out.below (hbwV.trans (hHeld.1.mono hbwV.size))) (Hpv.out.below (hbwV.trans (hHeld.1.mono hbwV.size)))).mono ?_
                  rintro e w' ⟨rfl, hb⟩
                  rw [show fitB s { Fc with played := true } = fitB s Fc from rfl, Hfit.out]
                  go_wp2_with fail
                  refine hK.out _ _ ?_ (fun hHeld => ?_)
                  · (exact HS.out _ (by first | assumption | exact hHeld.1 | exact below_step hHeld.1 (by assumption) | exact below_step hHeld.1 (below_alloc _ _)))
                  clear hK K
                  try simp only [Act.put, List.setIfInBounds_toArray, List.set_cons_zero, List.set_cons_succ]
                  refine take_to 9 59 #[true, true, true, true, true, true, true, true, true, true, false, false, false, false, false, false, false] (v := ?_) ops_43_11_9 rfl ops_43_11_ns (by kernel_rfl) (by kernel_rfl) (fun _ _ _ h => h) (by rfl) ?y9b (by assumption) ?_
                  case y9b =>
                    intro w hSw
                    try dsimp only at hSw
                    go_simp
                    try with_reducible rfl
                  simp only [List.set_cons_zero, List.set_cons_succ]
                  refine take_to 10 60 #[true, true, true, true, true, true, true, true, true, true, true, false, false, false, false, false, false] (v := ?_) ops_43_11_10 rfl ops_43_11_ns (by kernel_rfl) (by kernel_rfl) (fun _ _ _ h => h) (by rfl) ?y10b (by assumption) ?_
                  case y10b =>
                    intro w hSw
                    try dsimp only at hSw
                    go_simp
                    try with_reducible rfl
                  simp only [List.set_cons_zero, List.set_cons_succ]
                  refine skip_to 11 61 #[true, true, true, true, true, true, true, true, true, true, true, true, false, false, false, false, false] ops_43_11_11 rfl ops_43_11_ns (by kernel_rfl) (by kernel_rfl) (fun _ _ _ h => h) (by rfl) (by assumption) ?_
                  simp only [List.set_cons_zero, List.set_cons_succ]
                  refine skip_to 12 62 #[true, true, true, true, true, true, true, true, true, true, true, true, true, false, false, false, false] ops_43_11_12 rfl ops_43_11_ns (by kernel_rfl) (by kernel_rfl) (fun _ _ _ h => h) (by rfl) (by assumption) ?_
                  simp only [List.set_cons_zero, List.set_cons_succ]
                  refine skip_to 13 63 #[true, true, true, true, true, true, true, true, true, true, true, true, true, true, false, false, false] ops_43_11_13 rfl ops_43_11_ns (by kernel_rfl) (by kernel_rfl) (fun _ _ _ h => h) (by rfl) (by assumption) ?_
                  simp only [List.set_cons_zero, List.set_cons_succ]
                  refine skip_to 14 64 #[true, true, true, true, true, true, true, true, true, true, true, true, true, true, true, false, false] ops_43_11_14 rfl ops_43_11_ns (by kernel_rfl) (by kernel_rfl) (fun _ _ _ h => h) (by rfl) (by assumption) ?_
                  simp only [List.set_cons_zero, List.set_cons_succ]
                  refine skip_to 15 65 #[true, true, true, true, true, true, true, true, true, true, true, true, true, true, true, true, false] ops_43_11_15 rfl ops_43_11_ns (by kernel_rfl) (by kernel_rfl) (fun _ _ _ h => h) (by rfl) (by assumption) ?_
                  simp only [List.set_cons_zero, List.set_cons_succ]
                  refine take_to 16 66 #[true, true, true, true, true, true, true, true, true, true, true, true, true, true, true, true, true] (v := ?_) ops_43_11_16 rfl ops_43_11_ns (by kernel_rfl) (by kernel_rfl) (fun _ _ _ h => h) (by rfl) ?y16b (by assumption) ?_
                  case y16b =>
                    intro w hSw
                    try dsimp only at hSw
                    go_simp
                    try with_reducible rfl
                  simp only [List.set_cons_zero, List.set_cons_succ]
                  refine wpAnyH_done (by kernel_rfl) ?_ _
                  have hb9 := hHeld.1
                  clear hHeld
                  go_wp2_with fail
                  go_roundw
                  case rel => exact ⟨j + 1, by omega, by go_num, Lib.hid (Hnx.out (by rw [HP.out]; rfl)), Lib.hid (Hat.out.below hb9), below_step hbwV hb9⟩
                  case measure => simp [intOf]; omega
                · rw [hfit] at HP
                  have Hfit := Lib.hid ((suit_fit Fc s).symm.trans hfit)
                  clear hp hfit
                  have HFi := Lib.hid (show ∀ w', Below V.heap.size V w' → Fis w' 0 (.slice (some ⟨g, 0, none⟩) fs.length cap) F from fun w' hb => by
                    have h := (Hat.out.below hb).rows (lo := 0) (cap := cap) (by rw [List.length_map, HFl.out]; exact Hbig.out) (Nat.zero_le _) (by rw [List.length_map, HFl.out]; exact hle)
                    rw [List.length_map, HFl.out] at h
                    exact h)
                  show Code.wp _ (Code.region 11 ops_43_11 true) _ _ _
                  refine region_start 17 (fun w' => Below V.heap.size V w' ∧ w'.cell? ⟨X, 0, none⟩ = some (.string Fc.who) ∧ w'.cell? ⟨X, 1, none⟩ = some (.slice xa Fc.pos.length xc) ∧ w'.cell? ⟨X, 2, none⟩ = some (.int .i64 Fc.num) ∧ w'.cell? ⟨X, 3, none⟩ = some (.int .i64 Fc.den) ∧ w'.cell? ⟨X, 4, none⟩ = some (.bool true) ∧ w'.cell? ⟨g', off' + k * 2, none⟩ = some (.string s.key) ∧ w'.cell? ⟨g', off' + k * 2 + 1, none⟩ = some (.slice pa s.pos.length pc)) (by kernel_rfl) rfl ?_ (fun hHeld => ?_)
                  · (exact HS.out _ (by first | assumption | exact hHeld.1 | exact below_step hHeld.1 (by assumption) | exact below_step hHeld.1 (below_alloc _ _)))
                  refine take_to 0 50 #[true, false, false, false, false, false, false, false, false, false, false, false, false, false, false, false, false] (v := ?_) ops_43_11_0 rfl ops_43_11_ns (by kernel_rfl) (by kernel_rfl) (fun _ _ _ h => h) (by rfl) ?y0c (by assumption) ?_
                  case y0c =>
                    intro w hSw
                    try dsimp only at hSw
                    go_simp
                    try with_reducible rfl
                  simp only [List.set_cons_zero, List.set_cons_succ]
                  refine take_to 1 51 #[true, true, false, false, false, false, false, false, false, false, false, false, false, false, false, false, false] (v := ?_) ops_43_11_1 rfl ops_43_11_ns (by kernel_rfl) (by kernel_rfl) (fun _ _ _ h => h) (by rfl) ?y1c (by assumption) ?_
                  case y1c =>
                    intro w hSw
                    try dsimp only at hSw
                    go_simp
                    try with_reducible rfl
                  simp only [List.set_cons_zero, List.set_cons_succ]
                  refine take_to 2 52 #[true, true, true, false, false, false, false, false, false, false, false, false, false, false, false, false, false] (v := ?_) ops_43_11_2 rfl ops_43_11_ns (by kernel_rfl) (by kernel_rfl) (fun _ _ _ h => h) (by rfl) ?y2c (by assumption) ?_
                  case y2c =>
                    intro w hSw
                    try dsimp only at hSw
                    go_simp
                    try with_reducible rfl
                  simp only [List.set_cons_zero, List.set_cons_succ]
                  refine take_to 3 53 #[true, true, true, true, false, false, false, false, false, false, false, false, false, false, false, false, false] (v := ?_) ops_43_11_3 rfl ops_43_11_ns (by kernel_rfl) (by kernel_rfl) (fun _ _ _ h => h) (by rfl) ?y3c (by assumption) ?_
                  case y3c =>
                    intro w hSw
                    try dsimp only at hSw
                    go_simp
                    try with_reducible rfl
                  simp only [List.set_cons_zero, List.set_cons_succ]
                  refine take_to 4 54 #[true, true, true, true, true, false, false, false, false, false, false, false, false, false, false, false, false] (v := ?_) ops_43_11_4 rfl ops_43_11_ns (by kernel_rfl) (by kernel_rfl) (fun _ _ _ h => h) (by rfl) ?y4c (by assumption) ?_
                  case y4c =>
                    intro w hSw
                    try dsimp only at hSw
                    go_simp
                    try with_reducible rfl
                  simp only [List.set_cons_zero, List.set_cons_succ]
                  refine take_to 5 55 #[true, true, true, true, true, true, false, false, false, false, false, false, false, false, false, false, false] (v := ?_) ops_43_11_5 rfl ops_43_11_ns (by kernel_rfl) (by kernel_rfl) (fun _ _ _ h => h) (by rfl) ?y5c (by assumption) ?_
                  case y5c =>
                    intro w hSw
                    try dsimp only at hSw
                    go_simp
                    try with_reducible rfl
                  simp only [List.set_cons_zero, List.set_cons_succ]
                  refine take_to 6 56 #[true, true, true, true, true, true, true, false, false, false, false, false, false, false, false, false, false] (v := ?_) ops_43_11_6 rfl ops_43_11_ns (by kernel_rfl) (by kernel_rfl) (fun _ _ _ h => h) (by rfl) ?y6c (by assumption) ?_
                  case y6c =>
                    intro w hSw
                    try dsimp only at hSw
                    go_simp
                    try with_reducible rfl
                  simp only [List.set_cons_zero, List.set_cons_succ]
                  refine take_to 7 57 #[true, true, true, true, true, true, true, true, false, false, false, false, false, false, false, false, false] (v := ?_) ops_43_11_7 rfl ops_43_11_ns (by kernel_rfl) (by kernel_rfl) (fun _ _ _ h => h) (by rfl) ?y7c (by assumption) ?_
                  case y7c =>
                    intro w hSw
                    try dsimp only at hSw
                    go_simp
                    try with_reducible rfl
                  simp only [List.set_cons_zero, List.set_cons_succ]
                  refine run_to 8 #[true, true, true, true, true, true, true, true, true, false, false, false, false, false, false, false, false] ops_43_11_8 (by kernel_rfl) (by kernel_rfl) (by rfl) (fun K hK => ?_)
                  go_simp
                  refine (fit_calls _ _ (.slice xa Fc.pos.length xc) (.slice pa s.pos.length pc) { Fc with played := true } s _ (Hcv.out.below (hbwV.trans (hHeld.1.mono hbwV.size))) (Hpv.out.below (hbwV.trans (hHeld.1.mono hbwV.size)))).mono ?_
                  rintro e w' ⟨rfl, hb⟩
                  rw [show fitB s { Fc with played := true } = fitB s Fc from rfl, Hfit.out]
                  go_wp2_with fail
                  refine hK.out _ _ ?_ (fun hHeld => ?_)
                  · (exact HS.out _ (by first | assumption | exact hHeld.1 | exact below_step hHeld.1 (by assumption) | exact below_step hHeld.1 (below_alloc _ _)))
                  clear hK K
                  try simp only [Act.put, List.setIfInBounds_toArray, List.set_cons_zero, List.set_cons_succ]
                  refine take_to 9 59 #[true, true, true, true, true, true, true, true, true, true, false, false, false, false, false, false, false] (v := ?_) ops_43_11_9 rfl ops_43_11_ns (by kernel_rfl) (by kernel_rfl) (fun _ _ _ h => h) (by rfl) ?y9c (by assumption) ?_
                  case y9c =>
                    intro w hSw
                    try dsimp only at hSw
                    go_simp
                    try with_reducible rfl
                  simp only [List.set_cons_zero, List.set_cons_succ]
                  refine take_to 10 60 #[true, true, true, true, true, true, true, true, true, true, true, false, false, false, false, false, false] (v := ?_) ops_43_11_10 rfl ops_43_11_ns (by kernel_rfl) (by kernel_rfl) (fun _ _ _ h => h) (by rfl) ?y10c (by assumption) ?_
                  case y10c =>
                    intro w hSw
                    try dsimp only at hSw
                    go_simp
                    try with_reducible rfl
                  simp only [List.set_cons_zero, List.set_cons_succ]
                  refine take_to 11 61 #[true, true, true, true, true, true, true, true, true, true, true, true, false, false, false, false, false] (v := ?_) ops_43_11_11 rfl ops_43_11_ns (by kernel_rfl) (by kernel_rfl) (fun _ _ _ h => h) (by rfl) ?y11c (by assumption) ?_
                  case y11c =>
                    intro w hSw
                    try dsimp only at hSw
                    go_simp
                    try with_reducible rfl
                  simp only [List.set_cons_zero, List.set_cons_succ]
                  refine take_to 12 62 #[true, true, true, true, true, true, true, true, true, true, true, true, true, false, false, false, false] (v := ?_) ops_43_11_12 rfl ops_43_11_ns (by kernel_rfl) (by kernel_rfl) (fun _ _ _ h => h) (by rfl) ?y12c (by assumption) ?_
                  case y12c =>
                    intro w hSw
                    try dsimp only at hSw
                    go_simp
                    try with_reducible rfl
                  simp only [List.set_cons_zero, List.set_cons_succ]
                  refine take_to 14 64 #[true, true, true, true, true, true, true, true, true, true, true, true, true, false, true, false, false] (v := ?_) ops_43_11_14 rfl ops_43_11_ns (by kernel_rfl) (by kernel_rfl) (fun _ _ _ h => h) (by rfl) ?y14c (by assumption) ?_
                  case y14c =>
                    intro w hSw
                    try dsimp only at hSw
                    go_simp
                    try with_reducible rfl
                  simp only [List.set_cons_zero, List.set_cons_succ]
                  refine run_to 13 #[true, true, true, true, true, true, true, true, true, true, true, true, true, true, true, false, false] ops_43_11_13 (by kernel_rfl) (by kernel_rfl) (by rfl) (fun K hK => ?_)
                  go_simp
                  refine (benchOf_calls lo 0 _ _ cs F _ (NRows.below HC0.out (hbwV.trans (hHeld.1.mono hbwV.size))) (HFi.out _ hHeld.1) hcn).mono ?_
                  rintro e w' ⟨bv, rfl, hown, hb⟩
                  have hBn := strs_of_owns hown (Nat.le_trans (bnOf_len cs F) (by omega))
                  obtain ⟨oa, oc, rfl⟩ := strs_shape hBn
                  clear hown
                  go_wp2_with fail
                  refine hK.out _ _ ?_ (fun hHeld => ?_)
                  · (exact HS.out _ (by first | assumption | exact hHeld.1 | exact below_step hHeld.1 (by assumption) | exact below_step hHeld.1 (below_alloc _ _)))
                  clear hK K
                  try simp only [Act.put, List.setIfInBounds_toArray, List.set_cons_zero, List.set_cons_succ]
                  refine run_to 15 #[true, true, true, true, true, true, true, true, true, true, true, true, true, true, true, true, false] ops_43_11_15 (by kernel_rfl) (by kernel_rfl) (by rfl) (fun K hK => ?_)
                  go_simp
                  refine (contains_calls _ _ (bnOf cs F) b _ hBn).mono ?_
                  rintro e w' ⟨rfl, rfl⟩
                  rw [Hcn.out]
                  go_wp2_with fail
                  refine hK.out _ _ ?_ (fun hHeld => ?_)
                  · (exact HS.out _ (by first | assumption | exact hHeld.1 | exact below_step hHeld.1 (by assumption) | exact below_step hHeld.1 (below_alloc _ _)))
                  clear hK K
                  try simp only [Act.put, List.setIfInBounds_toArray, List.set_cons_zero, List.set_cons_succ]
                  refine take_to 16 66 #[true, true, true, true, true, true, true, true, true, true, true, true, true, true, true, true, true] (v := ?_) ops_43_11_16 rfl ops_43_11_ns (by kernel_rfl) (by kernel_rfl) (fun _ _ _ h => h) (by rfl) ?y16c (by assumption) ?_
                  case y16c =>
                    intro w hSw
                    try dsimp only at hSw
                    go_simp
                    try with_reducible rfl
                  simp only [List.set_cons_zero, List.set_cons_succ]
                  refine wpAnyH_done (by kernel_rfl) ?_ _
                  have hb9 := hHeld.1
                  clear hHeld
                  cases hin : inF F b
                  · rw [hin] at HP
                    have Hst' := Lib.hid (Hst.out (by rw [HP.out]; rfl))
                    have Hat9 := Lib.hid (Hat.out.below hb9)
                    have f1 := Hat9.out.free (k * 2 + 1)
                    have q1 := Hat9.out.cell (i := k) (j := 1) (r := fiRow f) (u := .string f.who) (by simp [Hf.out]) rfl
                    rw [Nat.zero_add] at q1
                    have hset := Hat9.out.set (i := k) (f := 1) (row := fiRow f) (by simp [Hf.out]) (by omega) (.string b)
                    rw [show (fiRow f).set 1 (.string b) = fiRow ⟨f.slot, b⟩ from rfl, ← List.map_set, Nat.zero_add] at hset
                    have Hset := Lib.hid hset
                    clear hin hset
                    go_wp2_with fail
                    go_roundw
                    case rel => exact ⟨k + 1, by omega, by go_num, by rw [Hnext.out, Hst'.out]; exact Hset, below_set (below_step hbwV hb9) hgw _⟩
                    case measure => simp [intOf]; omega
                  · rw [hin] at HP
                    clear hin
                    go_wp2_with fail
                    go_roundw
                    case rel => exact ⟨j + 1, by omega, by go_num, Lib.hid (Hnx.out (by rw [HP.out]; rfl)), Lib.hid (Hat.out.below hb9), below_step hbwV hb9⟩
                    case measure => simp [intOf]; omega
            · obtain rfl : j = ks.length := by omega
              have Hst := Lib.hid (sb_none (s := s) (ks := ks) (i := k) Hf.out Hp.out (fun x hx => by
                obtain ⟨q, hq⟩ := List.getElem?_of_mem hx
                exact Hbef.out q x (List.getElem?_eq_some_iff.1 hq).1 hq))
              go_wp2_with fail
              go_roundw
              case rel => exact ⟨k + 1, by omega, by go_num, by rw [Hnext.out, Hst.out]; exact Hat, hb⟩
              case measure => simp [intOf]; omega
        · have Hp := Lib.hid (show (fndC cs f.who).played = true by rw [← HFq.out]; exact hp)
          have Hst := Lib.hid (sb_played (s := s) (ks := ks) (i := k) Hf.out Hp.out)
          rw [hp] at r4
          clear hp
          go_wp2_with fail
          go_roundw
          case rel => exact ⟨k + 1, by omega, by go_num, by rw [Hnext.out, Hst.out]; exact Hat, hbw1⟩
          case measure => simp [intOf]; omega
    · obtain rfl : k = fs.length := by omega
      have hfin := Hat.out.rows (lo := w.heap.size) (cap := cap) (by rw [List.length_map, sbTo_len]; exact Hbig.out) (by omega) (by rw [List.length_map, sbTo_len]; exact hle)
      rw [List.length_map, sbTo_len] at hfin
      have HFin := Lib.hid hfin
      clear hfin
      go_wp2_with fail
      go_ret
      exact ⟨_, rfl, HFin.out, hb⟩
end Go.Proofs.YthlfjfmlmcoihaaGreat
