/- Who suits a slot: the program's way and the reference's. -/
import Derived.Test.YthlfjfmlmcoihaaGreatMgax
import Derived.Test.YthlfjfmlmcoihaaGreatMgav
import Derived.Deep.CutRange
import Derived.Test.YthlfjfmlmcoihaaGreatMgau
import Derived.Test.YthlfjfmlmcoihaaGreatMgaw
import Derived.Test.YthlfjfmlmcoihaaGreatMgan
import Derived.Test.YthlfjfmlmcoihaaGreatMgad
import Derived.Test.YthlfjfmlmcoihaaGreatMgas
import Derived.Test.YthlfjfmlmcoihaaGreatMgat
import Derived.Test.YthlfjfmlmcoihaaGreatMgao
import Derived.Test.YthlfjfmlmcoihaaGreatMgap
/- Plain facts of the reference's faults. -/
namespace Go.Proofs.YthlfjfmlmcoihaaGreat
open Go.RowKit

/-- The name before number k. -/
def lastR (rs : List RD) (k : Nat) : ByteArray := if k = 0 then ⟨#[]⟩ else (rlAt rs (k - 1)).key
def nmB (r : RD) : Bool := keyB r.key && keyB r.stat && (decide (r.pos.size = 0) || keyB r.pos)
def bndB (kind : Int) : Bool := kind == 2 || kind == 3
theorem rl_name {rs : List RD} {k : Nat} {r : RD} (h : rs[k]? = some r) (hn : nmB r = false) : rlF rs k = 5 := by
  unfold rlF
  rw [rlAt_some h]
  unfold nmB at hn
  cases h1 : keyB r.key <;> cases h2 : keyB r.stat <;> cases h3 : decide (r.pos.size = 0) <;> cases h4 : keyB r.pos <;> simp_all [unlessE, firstE]
theorem rl_ord {rs : List RD} {k : Nat} (h : keyB (rlAt rs k).key = true) : ltS (lastR rs k) (rlAt rs k).key = (decide (k = 0) || ltS (rlAt rs (k - 1)).key (rlAt rs k).key) := by
  unfold lastR
  by_cases h0 : k = 0
  · subst h0; simp [lt_empty h]
  · simp [h0]
theorem rl_order {rs : List RD} {k : Nat} {r : RD} (h : rs[k]? = some r) (hn : nmB r = true) (ho : ltS (lastR rs k) r.key = false) : rlF rs k = 7 := by
  have hk : keyB r.key = true := by unfold nmB at hn; revert hn; cases keyB r.key <;> simp
  have h2 := rl_ord (rs := rs) (k := k) (by rw [rlAt_some h]; exact hk)
  rw [rlAt_some h, ho] at h2
  unfold rlF
  rw [rlAt_some h, ← h2]
  unfold nmB at hn
  rw [Bool.and_eq_true, Bool.and_eq_true] at hn
  rw [hn.1.1, hn.1.2, hn.2]
  simp [unlessE, firstE]
theorem rl_rest {rs : List RD} {k : Nat} {r : RD} (h : rs[k]? = some r) (hn : nmB r = true) (ho : ltS (lastR rs k) r.key = true) : rlF rs k = firstE [unlessE (betwB r.kind 1 4) 4, unlessE (manyB r.kind r.many) 1, wrongF r.num r.den 10000] := by
  have hk : keyB r.key = true := by unfold nmB at hn; revert hn; cases keyB r.key <;> simp
  have h2 := rl_ord (rs := rs) (k := k) (by rw [rlAt_some h]; exact hk)
  rw [rlAt_some h, ho] at h2
  unfold rlF
  rw [rlAt_some h, ← h2]
  unfold nmB at hn
  rw [Bool.and_eq_true, Bool.and_eq_true] at hn
  rw [hn.1.1, hn.1.2, hn.2]
  simp [unlessE, firstE]
theorem eachE_hit {n k : Nat} {most : Int} {f : Nat → Int} (hm : (n : Int) ≤ most) (hk : k < n) (h0 : ∀ i, i < k → f i = 0) (h : f k ≠ 0) : eachE n most f = f k := by
  unfold eachE
  rw [if_neg (by omega), Int.toNat_natCast]
  exact errsTo_hit hk h0 h
theorem eachE_none {n : Nat} {most : Int} {f : Nat → Int} (hm : (n : Int) ≤ most) (h0 : ∀ i, i < n → f i = 0) : eachE n most f = 0 := by
  unfold eachE
  rw [if_neg (by omega), Int.toNat_natCast]
  exact errsTo_none h0
theorem many_bnd (kind many : Int) : manyB kind many = if bndB kind then betwB many 1 100000 else many == 0 := by
  unfold manyB bndB
  by_cases h2 : kind = 2
  · simp [h2]
  · by_cases h3 : kind = 3
    · simp [h3]
    · simp [h2, h3]
end Go.Proofs.YthlfjfmlmcoihaaGreat
/- SlotsFault: what is wrong with slots. -/
namespace Go.Proofs.YthlfjfmlmcoihaaGreat
open Go.RowKit

theorem rows_take {w : World} {T lo sz g off n c m : Nat} {rows : List (List Value)} (h : Rows w T lo sz (.slice (some ⟨g, off, none⟩) n c) rows) (hn : n = rows.length) (hm : m ≤ n) : Rows w T lo sz (.slice (some ⟨g, off, none⟩) m c) (rows.take m) := by
  have hf := h.fits
  have e0 : (rows.take m).length = m := by simp; omega
  have hsm := h.small
  rcases h.shape with ⟨e, _⟩ | ⟨g', off', cap, cur, fr, e, h2, h3, h4⟩
  · cases e
  · simp only [Value.slice.injEq, Option.some.injEq, Addr.mk.injEq, and_true] at e
    obtain ⟨⟨rfl, rfl⟩, _, rfl⟩ := e
    refine ⟨by omega, fun r hr => h.each r (List.mem_of_mem_take hr), .inr ⟨g, off, c, cur, fr, by rw [e0], ⟨h2.1, by rw [e0]; omega⟩, h3, fun i j u hu => ?_⟩⟩
    refine h4 i j u ?_
    rw [List.getElem?_take] at hu
    split at hu
    · exact hu
    · simp at hu
theorem nrows_take {α : Type} {row : α → Value → List Value} {pos : α → List ByteArray} {w : World} {T lo sz g off n c m : Nat} {xs : List α} (h : NRows row pos w T lo sz (.slice (some ⟨g, off, none⟩) n c) xs) (hn : n = xs.length) (hm : m ≤ n) : NRows row pos w T lo sz (.slice (some ⟨g, off, none⟩) m c) (xs.take m) := by
  obtain ⟨pvs, hl, hr, hp⟩ := h
  refine ⟨pvs.take m, by simp; omega, ?_, fun i x a hx ha => ?_⟩
  · have := rows_take (m := m) hr (by rw [nRows_length hl]; exact hn) hm
    unfold nRows at this ⊢
    rw [List.take_zipWith] at this
    exact this
  · rw [List.getElem?_take] at hx ha
    split at hx
    · rw [if_pos (by assumption)] at ha
      exact hp i x a hx ha
    · cases hx
def slAt (xs : List SlD) (i : Nat) : SlD := xs[i]?.getD ⟨⟨#[]⟩, []⟩
theorem slAt_some {xs : List SlD} {i : Nat} {s : SlD} (h : xs[i]? = some s) : slAt xs i = s := by simp [slAt, h]
def earB (xs : List SlD) (i : Nat) (k : ByteArray) : Bool := (xs.take i).any fun y => beqS y.key k
/-- What is wrong with slot i. -/
def slF (xs : List SlD) (i : Nat) : Int := firstE [unlessE (keyB (slAt xs i).key) 5, unlessE (!earB xs i (slAt xs i).key) 6, poE (slAt xs i).pos]
def chkSl (xs : List SlD) : Int := firstE [unlessE (decide (0 < xs.length)) 8, eachE xs.length 12 (slF xs)]
theorem slotsFault1_calls (f : SlD) (k : ByteArray) (xa : Option Addr) (n c X : Nat) (w : World) (hX : w.cell? ⟨X, 0, none⟩ = some (.string k)) :
    Calls Tryz.prog 63 #[.agg #[.string f.key, .slice xa n c], .pointer (some ⟨X, 0, none⟩)] w (BoolIs (beqS f.key k) w) := by
  go_enter Tryz.func63, Tryz.ntmps63
  have hX1 := below_cell (below_alloc w (.cells #[.string f.key, .slice xa n c] 78)) hX
  go_wp2_with fail
  go_ret
  exact ⟨ret_bool (by unfold beqS; rfl), below_alloc w _⟩
set_option maxRecDepth 100000 in
set_option maxHeartbeats 8000000 in
theorem slotsFault_calls (lo : Nat) (v : Value) (xs : List SlD) (w : World) (hR : Sls w lo v xs) (hs : ∀ c ∈ xs, SmallSl c) :
    Calls Tryz.prog 14 #[v] w (IntBelow (chkSl xs) w) := by
  rcases sls_at hR with ⟨rfl, rfl⟩ | ⟨g, off, cap, rfl, _, hg, hn, hcell⟩
  · clear hR hs
    go_enter Tryz.func14, Tryz.ntmps14
    go_wp2_with fail
    go_ret
    exact ⟨rfl, Below.refl _ _⟩
  have Hs := Lib.hid hs
  have Hc := Lib.hid hcell
  have HR := Lib.hid hR
  clear hs hcell hR
  by_cases h0 : xs.length = 0
  · have HN := Lib.hid (show chkSl xs = 8 by unfold chkSl; rw [h0]; rfl)
    have e0 : ((xs.length : Int) == 0) = true := by rw [beq_iff_eq]; omega
    clear h0
    go_enter Tryz.func14, Tryz.ntmps14
    go_wp2_with fail
    go_ret
    exact ⟨ret_int HN.out.symm, Below.refl _ _⟩
  have e0 : ((xs.length : Int) == 0) = false := by rw [beq_eq_false_iff_ne]; omega
  have HE := Lib.hid (show chkSl xs = eachE xs.length 12 (slF xs) by
    unfold chkSl
    rw [decide_eq_true (show 0 < xs.length by omega)]
    simp [unlessE, firstE]
    exact fun h => h.symm)
  rw [HE.out]
  clear h0
  by_cases hm : xs.length ≤ 12
  · have Hm := Lib.hid (show (xs.length : Int) ≤ 12 by omega)
    go_enter Tryz.func14, Tryz.ntmps14
    go_wp2_with fail
    clear e0
    go_loopw [16] (fun i wr => ∃ k : Nat, k ≤ xs.length ∧ i = .int .i64 k ∧ Hid (∀ i, i < k → slF xs i = 0) ∧ Below w.heap.size w wr) (fun i _ => xs.length - (intOf i).toNat)
    case atStart => exact ⟨0, Nat.zero_le _, rfl, Lib.hid (fun i hi => by omega), Below.refl _ _⟩
    case round =>
      obtain ⟨k, hk, rfl, H0, hb⟩ := hrel
      by_cases hlt : k < xs.length
      · obtain ⟨c, hc⟩ : ∃ c, xs[k]? = some c := ⟨xs[k], List.getElem?_eq_getElem hlt⟩
        obtain ⟨s1, s2, s3⟩ := Hs.out c (List.mem_of_getElem? hc)
        have HF := Lib.hid (show slF xs k = firstE [unlessE (keyB c.key) 5, unlessE (!earB xs k c.key) 6, lfE true c.pos] by unfold slF; rw [slAt_some hc, poE_eq])
        have Hhit := Lib.hid (fun (h : slF xs k ≠ 0) => (show eachE xs.length 12 (slF xs) = slF xs k from eachE_hit Hm.out hlt H0.out h))
        have Hnext := Lib.hid (fun (h : slF xs k = 0) i (hi : i < k + 1) => (show slF xs i = 0 by
          rcases Nat.lt_succ_iff_lt_or_eq.1 hi with h' | rfl
          · exact H0.out i h'
          · exact h))
        obtain ⟨pv, q0, q1, hpv⟩ := Hc.out k c hc
        obtain ⟨pa, pc, rfl⟩ := strs_shape hpv
        have p0 := below_cell hb q0
        have p1 := below_cell hb q1
        have HL := Lib.hid (fun w' (hb' : Below w.heap.size w w') => listFault_calls true lo _ c.pos w' (hpv.below hb') s3 (by omega))
        have HT := Lib.hid (fun w' (hb' : Below w.heap.size w w') => (show Sls w' lo (.slice (some ⟨g, off, none⟩) k cap) (xs.take k) from NRows.below (nrows_take HR.out rfl (by omega)) hb'))
        have hfit : xs.length ≤ cap := by obtain ⟨_, hl, hr, _⟩ := HR.out; exact Rows.fits hr
        clear hc s2 s3 q0 q1 hpv
        go_upto_region 8 with fail
        obtain ⟨wA, hwA⟩ : ∃ wA, wA = wr.alloc (.cells #[.string c.key, .slice pa c.pos.length pc] 78) := ⟨_, rfl⟩
        obtain ⟨X, hX⟩ : ∃ X, X = wr.heap.size := ⟨_, rfl⟩
        have hbA : Below w.heap.size w wA := by rw [hwA]; exact below_step hb (below_alloc wr _)
        have hx : wA.heap[X]? = some (.cells #[.string c.key, .slice pa c.pos.length pc] 78 (0, 0)) := by rw [hwA, hX]; exact heap_alloc_new wr _
        rw [← hwA, ← hX]
        have x0 := cell_at hx 0 rfl
        have x1 := cell_at hx 1 rfl
        have HbA := Lib.hid hbA
        have HC := Lib.hid (containsSl_calls 63 #[.pointer (some ⟨X, 0, none⟩)] (fun y => beqS y.key c.key) lo _ (xs.take k) wA (HT.out wA hbA) (by intro args w; go_simp) (fun W f xa xc hb => slotsFault1_calls f c.key xa _ xc X W (below_cell hb x0)))
        have HEB := Lib.hid (show (xs.take k).any (fun y => beqS y.key c.key) = earB xs k c.key from rfl)
        rw [HEB.out] at HC
        have Hx := Lib.hid hx
        have hkc : k ≤ cap := by omega
        clear hwA hX hbA hx hb p0 p1 HT HEB
        cases hnm : keyB c.key
        · have HN := Lib.hid (show slF xs k = 5 by rw [HF.out, hnm]; simp [unlessE, firstE])
          have HK := Lib.hid hnm
          clear hnm
          go_wp2_with fail
          refine (keyR_calls _ _ (by omega)).mono ?_
          rintro e w' ⟨rfl, rfl⟩
          rw [HK.out]
          go_wp2_with fail
          go_ret
          exact ⟨ret_int (by rw [Hhit.out (by rw [HN.out]; omega), HN.out]), HbA.out⟩
        · have HK := Lib.hid hnm
          clear hnm
          go_wp2_with fail
          refine (keyR_calls _ _ (by omega)).mono ?_
          rintro e w' ⟨rfl, rfl⟩
          rw [HK.out]
          go_wp2_with fail
          refine HC.out.mono ?_
          rintro e w2 ⟨rfl, hb2⟩
          have hx2 := cells_later Hx.out hb2
          have z0 := cell_at hx2 0 rfl
          have z1 := cell_at hx2 1 rfl
          have hb02 := below_step HbA.out hb2
          clear hx2 hb2
          cases he : earB xs k c.key
          · have HRE := Lib.hid (show slF xs k = lfE true c.pos by rw [HF.out, HK.out, he]; simp [unlessE, firstE]; exact fun h => h.symm)
            clear he
            go_wp2_with fail
            refine (HL.out w2 hb02).mono ?_
            rintro e w' ⟨rfl, rfl⟩
            rw [← HRE.out]
            by_cases hz : slF xs k = 0
            · have e2 : (slF xs k != 0) = false := by simp [hz]
              have HN := Lib.hid (Hnext.out hz)
              clear hz
              go_wp2_with fail
              go_roundw
              case rel => exact ⟨k + 1, by omega, by go_num, HN, hb02⟩
              case measure => simp [intOf]; omega
            · have e2 : (slF xs k != 0) = true := by simp [hz]
              have HN := Lib.hid (Hhit.out hz)
              clear hz
              go_wp2_with fail
              go_ret
              exact ⟨ret_int HN.out.symm, hb02⟩
          · have HN := Lib.hid (show slF xs k = 6 by rw [HF.out, HK.out, he]; simp [unlessE, firstE])
            clear he
            go_wp2_with fail
            go_ret
            exact ⟨ret_int (by rw [Hhit.out (by rw [HN.out]; omega), HN.out]), hb02⟩
      · obtain rfl : k = xs.length := by omega
        have HN := Lib.hid (show eachE xs.length 12 (slF xs) = 0 from eachE_none Hm.out H0.out)
        go_wp2_with fail
        go_ret
        exact ⟨ret_int HN.out.symm, hb⟩
  · have HN := Lib.hid (show eachE xs.length 12 (slF xs) = 2 by unfold eachE; rw [if_pos (by omega)])
    go_enter Tryz.func14, Tryz.ntmps14
    go_wp2_with fail
    go_ret
    exact ⟨ret_int HN.out.symm, Below.refl _ _⟩
end Go.Proofs.YthlfjfmlmcoihaaGreat
/- CheckSlots. -/
namespace Go.Proofs.YthlfjfmlmcoihaaGreat
open Go.RowKit

theorem checkSlots11_calls (f : SlD) (k : ByteArray) (xa : Option Addr) (n c X : Nat) (w : World) (hX : w.cell? ⟨X, 0, none⟩ = some (.string k)) :
    Calls Tryz.prog 77 #[.agg #[.string f.key, .slice xa n c], .pointer (some ⟨X, 0, none⟩)] w (BoolIs (beqS f.key k) w) := by
  go_enter Tryz.func77, Tryz.ntmps77
  have hX1 := below_cell (below_alloc w (.cells #[.string f.key, .slice xa n c] 78)) hX
  go_wp2_with fail
  go_ret
  exact ⟨ret_bool (by unfold beqS; rfl), below_alloc w _⟩
theorem nums3s (w : World) (T : Nat) (a b c : Int) : NumsAt (w.alloc (.cells #[.int .i64 a, .int .i64 b, .int .i64 c] T)) w.heap.size 0 [a, b, c] := by
  intro i x hx
  rw [World.cell?_alloc_at _ _ _ _ rfl]
  match i, hx with
  | 0, hx => simp at hx; subst hx; rfl
  | 1, hx => simp at hx; subst hx; rfl
  | 2, hx => simp at hx; subst hx; rfl
def ops_76_3 : Array Go.Oper := #[
  { dst := some 15, op := Go.Op.fieldAddr 78 (Go.Operand.tmp 4) 0, type := 0, pos := "lineup.go:20", after := #[], guard := none },
  { dst := some 16, op := Go.Op.load 9 (Go.Operand.tmp 15), type := 9, pos := "lineup.go:20", after := #[{ on := 0, ground := Go.Ground.data }], guard := none },
  { dst := some 17, op := Go.Op.call { callee := Go.Callee.value (Go.Operand.func 78), args := #[Go.Operand.tmp 16], argTypes := #[9] }, type := 4, pos := "lineup.go:21", after := #[{ on := 1, ground := Go.Ground.data }], guard := none },
  { dst := some 18, op := Go.Op.call { callee := Go.Callee.value (Go.Operand.func 54), args := #[Go.Operand.tmp 17, Go.Operand.const (Go.Value.int Go.IntKind.i64 5)], argTypes := #[4, 35] }, type := 35, pos := "lineup.go:21", after := #[{ on := 2, ground := Go.Ground.data }, { on := 2, ground := Go.Ground.chain }], guard := none },
  { dst := some 19, op := Go.Op.move (Go.Operand.tmp 5), type := 4, pos := "lineup.go:20", after := #[], guard := none },
  { dst := some 20, op := Go.Op.unOp Go.UnOp.not 4 (Go.Operand.tmp 19), type := 4, pos := "lineup.go:20", after := #[{ on := 4, ground := Go.Ground.data }], guard := none },
  { dst := some 21, op := Go.Op.call { callee := Go.Callee.value (Go.Operand.func 54), args := #[Go.Operand.tmp 20, Go.Operand.const (Go.Value.int Go.IntKind.i64 6)], argTypes := #[4, 35] }, type := 35, pos := "lineup.go:22", after := #[{ on := 5, ground := Go.Ground.data }, { on := 3, ground := Go.Ground.chain }], guard := none },
  { dst := some 22, op := Go.Op.fieldAddr 78 (Go.Operand.tmp 4) 1, type := 0, pos := "lineup.go:20", after := #[], guard := none },
  { dst := some 23, op := Go.Op.load 39 (Go.Operand.tmp 22), type := 39, pos := "lineup.go:20", after := #[{ on := 7, ground := Go.Ground.data }], guard := none },
  { dst := some 24, op := Go.Op.call { callee := Go.Callee.value (Go.Operand.func 79), args := #[Go.Operand.tmp 23], argTypes := #[39] }, type := 35, pos := "lineup.go:23", after := #[{ on := 8, ground := Go.Ground.data }, { on := 6, ground := Go.Ground.chain }], guard := none },
  { dst := some 25, op := Go.Op.buildSlice 95 3 #[(0, Go.Operand.tmp 18), (1, Go.Operand.tmp 21), (2, Go.Operand.tmp 24)], type := 95, pos := "lineup.go:20", after := #[{ on := 3, ground := Go.Ground.data }, { on := 6, ground := Go.Ground.data }, { on := 9, ground := Go.Ground.data }], guard := none },
  { dst := some 26, op := Go.Op.call { callee := Go.Callee.value (Go.Operand.func 53), args := #[Go.Operand.tmp 25], argTypes := #[95] }, type := 35, pos := "lineup.go:20", after := #[{ on := 10, ground := Go.Ground.data }, { on := 9, ground := Go.Ground.chain }], guard := none },
  { dst := some 3, op := Go.Op.assign (Go.Operand.tmp 26), type := 35, pos := "lineup.go:20", after := #[{ on := 11, ground := Go.Ground.data }, { on := 11, ground := Go.Ground.chain }, { on := 0, ground := Go.Ground.phase }, { on := 1, ground := Go.Ground.phase }, { on := 2, ground := Go.Ground.phase }, { on := 3, ground := Go.Ground.phase }, { on := 4, ground := Go.Ground.phase }, { on := 5, ground := Go.Ground.phase }, { on := 6, ground := Go.Ground.phase }, { on := 7, ground := Go.Ground.phase }, { on := 8, ground := Go.Ground.phase }, { on := 9, ground := Go.Ground.phase }, { on := 10, ground := Go.Ground.phase }, { on := 11, ground := Go.Ground.phase }], guard := none }]
theorem ops_76_3_0 : ops_76_3[0]? = some ({ dst := some 15, op := Go.Op.fieldAddr 78 (Go.Operand.tmp 4) 0, type := 0, pos := "lineup.go:20", after := #[], guard := none } : Go.Oper) := rfl
theorem ops_76_3_1 : ops_76_3[1]? = some ({ dst := some 16, op := Go.Op.load 9 (Go.Operand.tmp 15), type := 9, pos := "lineup.go:20", after := #[{ on := 0, ground := Go.Ground.data }], guard := none } : Go.Oper) := rfl
theorem ops_76_3_2 : ops_76_3[2]? = some ({ dst := some 17, op := Go.Op.call { callee := Go.Callee.value (Go.Operand.func 78), args := #[Go.Operand.tmp 16], argTypes := #[9] }, type := 4, pos := "lineup.go:21", after := #[{ on := 1, ground := Go.Ground.data }], guard := none } : Go.Oper) := rfl
theorem ops_76_3_3 : ops_76_3[3]? = some ({ dst := some 18, op := Go.Op.call { callee := Go.Callee.value (Go.Operand.func 54), args := #[Go.Operand.tmp 17, Go.Operand.const (Go.Value.int Go.IntKind.i64 5)], argTypes := #[4, 35] }, type := 35, pos := "lineup.go:21", after := #[{ on := 2, ground := Go.Ground.data }, { on := 2, ground := Go.Ground.chain }], guard := none } : Go.Oper) := rfl
theorem ops_76_3_4 : ops_76_3[4]? = some ({ dst := some 19, op := Go.Op.move (Go.Operand.tmp 5), type := 4, pos := "lineup.go:20", after := #[], guard := none } : Go.Oper) := rfl
theorem ops_76_3_5 : ops_76_3[5]? = some ({ dst := some 20, op := Go.Op.unOp Go.UnOp.not 4 (Go.Operand.tmp 19), type := 4, pos := "lineup.go:20", after := #[{ on := 4, ground := Go.Ground.data }], guard := none } : Go.Oper) := rfl
theorem ops_76_3_6 : ops_76_3[6]? = some ({ dst := some 21, op := Go.Op.call { callee := Go.Callee.value (Go.Operand.func 54), args := #[Go.Operand.tmp 20, Go.Operand.const (Go.Value.int Go.IntKind.i64 6)], argTypes := #[4, 35] }, type := 35, pos := "lineup.go:22", after := #[{ on := 5, ground := Go.Ground.data }, { on := 3, ground := Go.Ground.chain }], guard := none } : Go.Oper) := rfl
theorem ops_76_3_7 : ops_76_3[7]? = some ({ dst := some 22, op := Go.Op.fieldAddr 78 (Go.Operand.tmp 4) 1, type := 0, pos := "lineup.go:20", after := #[], guard := none } : Go.Oper) := rfl
theorem ops_76_3_8 : ops_76_3[8]? = some ({ dst := some 23, op := Go.Op.load 39 (Go.Operand.tmp 22), type := 39, pos := "lineup.go:20", after := #[{ on := 7, ground := Go.Ground.data }], guard := none } : Go.Oper) := rfl
theorem ops_76_3_9 : ops_76_3[9]? = some ({ dst := some 24, op := Go.Op.call { callee := Go.Callee.value (Go.Operand.func 79), args := #[Go.Operand.tmp 23], argTypes := #[39] }, type := 35, pos := "lineup.go:23", after := #[{ on := 8, ground := Go.Ground.data }, { on := 6, ground := Go.Ground.chain }], guard := none } : Go.Oper) := rfl
theorem ops_76_3_10 : ops_76_3[10]? = some ({ dst := some 25, op := Go.Op.buildSlice 95 3 #[(0, Go.Operand.tmp 18), (1, Go.Operand.tmp 21), (2, Go.Operand.tmp 24)], type := 95, pos := "lineup.go:20", after := #[{ on := 3, ground := Go.Ground.data }, { on := 6, ground := Go.Ground.data }, { on := 9, ground := Go.Ground.data }], guard := none } : Go.Oper) := rfl
theorem ops_76_3_11 : ops_76_3[11]? = some ({ dst := some 26, op := Go.Op.call { callee := Go.Callee.value (Go.Operand.func 53), args := #[Go.Operand.tmp 25], argTypes := #[95] }, type := 35, pos := "lineup.go:20", after := #[{ on := 10, ground := Go.Ground.data }, { on := 9, ground := Go.Ground.chain }], guard := none } : Go.Oper) := rfl
theorem ops_76_3_12 : ops_76_3[12]? = some ({ dst := some 3, op := Go.Op.assign (Go.Operand.tmp 26), type := 35, pos := "lineup.go:20", after := #[{ on := 11, ground := Go.Ground.data }, { on := 11, ground := Go.Ground.chain }, { on := 0, ground := Go.Ground.phase }, { on := 1, ground := Go.Ground.phase }, { on := 2, ground := Go.Ground.phase }, { on := 3, ground := Go.Ground.phase }, { on := 4, ground := Go.Ground.phase }, { on := 5, ground := Go.Ground.phase }, { on := 6, ground := Go.Ground.phase }, { on := 7, ground := Go.Ground.phase }, { on := 8, ground := Go.Ground.phase }, { on := 9, ground := Go.Ground.phase }, { on := 10, ground := Go.Ground.phase }, { on := 11, ground := Go.Ground.phase }], guard := none } : Go.Oper) := rfl
theorem ops_76_3_ns : Go.Region.noSelect ops_76_3 = true := by kernel_rfl
def ops_24_1 : Array Go.Oper := #[
  { dst := some 3, op := Go.Op.load 26 (Go.Operand.tmp 1), type := 26, pos := "lineup.go:15", after := #[], guard := none },
  { dst := some 4, op := Go.Op.call { callee := Go.Callee.builtin Go.Builtin.len, args := #[Go.Operand.tmp 3], argTypes := #[26] }, type := 3, pos := "lineup.go:15", after := #[{ on := 0, ground := Go.Ground.data }], guard := none },
  { dst := some 5, op := Go.Op.binOp Go.BinOp.gtr 3 (Go.Operand.tmp 4) (Go.Operand.const (Go.Value.int Go.IntKind.i64 0)) 3, type := 4, pos := "lineup.go:15", after := #[{ on := 1, ground := Go.Ground.data }], guard := none },
  { dst := some 6, op := Go.Op.call { callee := Go.Callee.value (Go.Operand.func 54), args := #[Go.Operand.tmp 5, Go.Operand.const (Go.Value.int Go.IntKind.i64 8)], argTypes := #[4, 35] }, type := 35, pos := "lineup.go:16", after := #[{ on := 2, ground := Go.Ground.data }], guard := none },
  { dst := some 7, op := Go.Op.load 26 (Go.Operand.tmp 1), type := 26, pos := "lineup.go:15", after := #[], guard := none },
  { dst := some 8, op := Go.Op.call { callee := Go.Callee.builtin Go.Builtin.len, args := #[Go.Operand.tmp 7], argTypes := #[26] }, type := 3, pos := "lineup.go:15", after := #[{ on := 4, ground := Go.Ground.data }], guard := none },
  { dst := some 9, op := Go.Op.makeFunc (Go.Fn.func 76) #[] #[Go.Operand.tmp 1], type := 114, pos := "lineup.go:15", after := #[], guard := none },
  { dst := some 10, op := Go.Op.call { callee := Go.Callee.value (Go.Operand.func 75), args := #[Go.Operand.tmp 8, Go.Operand.const (Go.Value.int Go.IntKind.i64 12), Go.Operand.tmp 9], argTypes := #[3, 3, 114] }, type := 35, pos := "lineup.go:17", after := #[{ on := 5, ground := Go.Ground.data }, { on := 6, ground := Go.Ground.data }, { on := 3, ground := Go.Ground.chain }], guard := none },
  { dst := some 11, op := Go.Op.buildSlice 95 2 #[(0, Go.Operand.tmp 6), (1, Go.Operand.tmp 10)], type := 95, pos := "lineup.go:15", after := #[{ on := 3, ground := Go.Ground.data }, { on := 7, ground := Go.Ground.data }], guard := none },
  { dst := some 12, op := Go.Op.call { callee := Go.Callee.value (Go.Operand.func 53), args := #[Go.Operand.tmp 11], argTypes := #[95] }, type := 35, pos := "lineup.go:15", after := #[{ on := 8, ground := Go.Ground.data }, { on := 7, ground := Go.Ground.chain }], guard := none },
  { dst := some 2, op := Go.Op.assign (Go.Operand.tmp 12), type := 35, pos := "lineup.go:15", after := #[{ on := 9, ground := Go.Ground.data }, { on := 9, ground := Go.Ground.chain }, { on := 0, ground := Go.Ground.phase }, { on := 1, ground := Go.Ground.phase }, { on := 2, ground := Go.Ground.phase }, { on := 3, ground := Go.Ground.phase }, { on := 4, ground := Go.Ground.phase }, { on := 5, ground := Go.Ground.phase }, { on := 6, ground := Go.Ground.phase }, { on := 7, ground := Go.Ground.phase }, { on := 8, ground := Go.Ground.phase }, { on := 9, ground := Go.Ground.phase }], guard := none }]
theorem ops_24_1_0 : ops_24_1[0]? = some ({ dst := some 3, op := Go.Op.load 26 (Go.Operand.tmp 1), type := 26, pos := "lineup.go:15", after := #[], guard := none } : Go.Oper) := rfl
theorem ops_24_1_1 : ops_24_1[1]? = some ({ dst := some 4, op := Go.Op.call { callee := Go.Callee.builtin Go.Builtin.len, args := #[Go.Operand.tmp 3], argTypes := #[26] }, type := 3, pos := "lineup.go:15", after := #[{ on := 0, ground := Go.Ground.data }], guard := none } : Go.Oper) := rfl
theorem ops_24_1_2 : ops_24_1[2]? = some ({ dst := some 5, op := Go.Op.binOp Go.BinOp.gtr 3 (Go.Operand.tmp 4) (Go.Operand.const (Go.Value.int Go.IntKind.i64 0)) 3, type := 4, pos := "lineup.go:15", after := #[{ on := 1, ground := Go.Ground.data }], guard := none } : Go.Oper) := rfl
theorem ops_24_1_3 : ops_24_1[3]? = some ({ dst := some 6, op := Go.Op.call { callee := Go.Callee.value (Go.Operand.func 54), args := #[Go.Operand.tmp 5, Go.Operand.const (Go.Value.int Go.IntKind.i64 8)], argTypes := #[4, 35] }, type := 35, pos := "lineup.go:16", after := #[{ on := 2, ground := Go.Ground.data }], guard := none } : Go.Oper) := rfl
theorem ops_24_1_4 : ops_24_1[4]? = some ({ dst := some 7, op := Go.Op.load 26 (Go.Operand.tmp 1), type := 26, pos := "lineup.go:15", after := #[], guard := none } : Go.Oper) := rfl
theorem ops_24_1_5 : ops_24_1[5]? = some ({ dst := some 8, op := Go.Op.call { callee := Go.Callee.builtin Go.Builtin.len, args := #[Go.Operand.tmp 7], argTypes := #[26] }, type := 3, pos := "lineup.go:15", after := #[{ on := 4, ground := Go.Ground.data }], guard := none } : Go.Oper) := rfl
theorem ops_24_1_6 : ops_24_1[6]? = some ({ dst := some 9, op := Go.Op.makeFunc (Go.Fn.func 76) #[] #[Go.Operand.tmp 1], type := 114, pos := "lineup.go:15", after := #[], guard := none } : Go.Oper) := rfl
theorem ops_24_1_7 : ops_24_1[7]? = some ({ dst := some 10, op := Go.Op.call { callee := Go.Callee.value (Go.Operand.func 75), args := #[Go.Operand.tmp 8, Go.Operand.const (Go.Value.int Go.IntKind.i64 12), Go.Operand.tmp 9], argTypes := #[3, 3, 114] }, type := 35, pos := "lineup.go:17", after := #[{ on := 5, ground := Go.Ground.data }, { on := 6, ground := Go.Ground.data }, { on := 3, ground := Go.Ground.chain }], guard := none } : Go.Oper) := rfl
theorem ops_24_1_8 : ops_24_1[8]? = some ({ dst := some 11, op := Go.Op.buildSlice 95 2 #[(0, Go.Operand.tmp 6), (1, Go.Operand.tmp 10)], type := 95, pos := "lineup.go:15", after := #[{ on := 3, ground := Go.Ground.data }, { on := 7, ground := Go.Ground.data }], guard := none } : Go.Oper) := rfl
theorem ops_24_1_9 : ops_24_1[9]? = some ({ dst := some 12, op := Go.Op.call { callee := Go.Callee.value (Go.Operand.func 53), args := #[Go.Operand.tmp 11], argTypes := #[95] }, type := 35, pos := "lineup.go:15", after := #[{ on := 8, ground := Go.Ground.data }, { on := 7, ground := Go.Ground.chain }], guard := none } : Go.Oper) := rfl
theorem ops_24_1_10 : ops_24_1[10]? = some ({ dst := some 2, op := Go.Op.assign (Go.Operand.tmp 12), type := 35, pos := "lineup.go:15", after := #[{ on := 9, ground := Go.Ground.data }, { on := 9, ground := Go.Ground.chain }, { on := 0, ground := Go.Ground.phase }, { on := 1, ground := Go.Ground.phase }, { on := 2, ground := Go.Ground.phase }, { on := 3, ground := Go.Ground.phase }, { on := 4, ground := Go.Ground.phase }, { on := 5, ground := Go.Ground.phase }, { on := 6, ground := Go.Ground.phase }, { on := 7, ground := Go.Ground.phase }, { on := 8, ground := Go.Ground.phase }, { on := 9, ground := Go.Ground.phase }], guard := none } : Go.Oper) := rfl
theorem ops_24_1_ns : Go.Region.noSelect ops_24_1 = true := by kernel_rfl
set_option maxRecDepth 100000 in
set_option maxHeartbeats 16000000 in
theorem checkSlots1_calls (b g off cap i lo : Nat) (xs : List SlD) (c : SlD) (w : World) (hi : xs[i]? = some c) (hs : SmallSl c) (hn : xs.length ≤ 1000000)
    (h1 : w.cell? ⟨b, 0, none⟩ = some (.slice (some ⟨g, off, none⟩) xs.length cap)) (hR : Sls w lo (.slice (some ⟨g, off, none⟩) xs.length cap) xs) :
    Calls Tryz.prog 76 #[.int .i64 (i : Int), .pointer (some ⟨b, 0, none⟩)] w (IntBelow (slF xs i) w) := by
  have hlt : i < xs.length := (List.getElem?_eq_some_iff.1 hi).1
  rcases sls_at hR with ⟨h, _⟩ | ⟨g', off', cap', e, _, _, _, hcell⟩
  · cases h
  simp only [Value.slice.injEq, Option.some.injEq, Addr.mk.injEq, and_true, true_and] at e
  obtain ⟨⟨rfl, rfl⟩, rfl⟩ := e
  obtain ⟨pv, q0, q1, hpv⟩ := hcell i c hi
  obtain ⟨pa, pc, rfl⟩ := strs_shape hpv
  have hfit : xs.length ≤ cap := by obtain ⟨_, hl, hr, _⟩ := hR; exact Rows.fits hr
  obtain ⟨W, hW⟩ : ∃ W, W = w.alloc (.cells #[.string c.key, .slice pa c.pos.length pc] 78) := ⟨_, rfl⟩
  have hwW : Below w.heap.size w W := by rw [hW]; exact below_alloc w _
  have hx : W.heap[w.heap.size]? = some (.cells #[.string c.key, .slice pa c.pos.length pc] 78 (0, 0)) := by rw [hW]; exact heap_alloc_new w _
  have x0 := cell_at hx 0 rfl
  have x1 := cell_at hx 1 rfl
  have c1 := below_cell hwW h1
  obtain ⟨hs1, hs2, hs3⟩ := hs
  have HP := Lib.hid (show ∀ w', Below w.heap.size w w' → Calls Tryz.prog 79 #[.slice pa c.pos.length pc] w' (IntBelow (poE c.pos) w') from fun w' hb => positions_calls lo _ c.pos w' (hpv.below hb) hs3 (by omega))
  have HC := Lib.hid (containsSl_calls 77 #[.pointer (some ⟨w.heap.size, 0, none⟩)] (fun y => beqS y.key c.key) lo _ (xs.take i) W (NRows.below (nrows_take hR rfl (by omega : i ≤ xs.length)) hwW) (by intro args w; go_simp) (fun V f xa xc hb => checkSlots11_calls f c.key xa _ xc w.heap.size V (below_cell hb x0)))
  have HEB := Lib.hid (show (xs.take i).any (fun y => beqS y.key c.key) = earB xs i c.key from rfl)
  rw [HEB.out] at HC
  have Hr := Lib.hid (show slF xs i = firstE [unlessE (keyB c.key) 5, unlessE (!earB xs i c.key) 6, poE c.pos] by unfold slF; rw [slAt_some hi])
  have Hx := Lib.hid hx
  have hic : i ≤ cap := by omega
  have hil : i ≤ xs.length := by omega
  generalize earB xs i c.key = eb at HC Hr
  clear hs2 hs3 hx hpv hR hcell hi HEB
  go_enter Tryz.func76, Tryz.ntmps76
  go_upto_region 2 with fail
  rw [← hW]
  clear hW
  go_wp2_with fail
  refine HC.out.mono ?_
  rintro e w2 ⟨rfl, hb2⟩
  have hx2 := cells_later Hx.out hb2
  have z0 := cell_at hx2 0 rfl
  have z1 := cell_at hx2 1 rfl
  have Hb02 := Lib.hid (hwW.trans (hb2.mono hwW.size))
  have HS := Lib.hid (show ∀ w', Below w2.heap.size w2 w' → (Below w2.heap.size w2 w' ∧ w'.cell? ⟨w.heap.size, 0, none⟩ = some (.string c.key) ∧ w'.cell? ⟨w.heap.size, 1, none⟩ = some (.slice pa c.pos.length pc)) from fun w' hb => ⟨hb, below_cell hb z0, below_cell hb z1⟩)
  have hb0 := (Below.refl w2.heap.size w2).drew
  clear hx2 x0 x1 c1 HC hb2 hwW
  go_upto_region 3 with fail
  show Code.wp _ (Code.region 3 ops_76_3 true) _ _ _
  refine region_start 13 (fun w' => Below w2.heap.size w2 w' ∧ w'.cell? ⟨w.heap.size, 0, none⟩ = some (.string c.key) ∧ w'.cell? ⟨w.heap.size, 1, none⟩ = some (.slice pa c.pos.length pc)) (by kernel_rfl) rfl ?_ (fun hHeld => ?_)
  · (exact HS.out _ (by first | assumption | exact hHeld.1 | exact below_step hHeld.1 (by assumption) | exact below_step hHeld.1 (below_alloc _ _)))
  refine take_to 0 15 #[true, false, false, false, false, false, false, false, false, false, false, false, false] (v := ?_) ops_76_3_0 rfl ops_76_3_ns (by kernel_rfl) (by kernel_rfl) (fun _ _ _ h => h) (by rfl) ?y00 (by assumption) ?_
  case y00 =>
    intro w hSw
    try dsimp only at hSw
    go_simp
    try with_reducible rfl
  simp only [List.set_cons_zero, List.set_cons_succ]
  refine take_to 1 16 #[true, true, false, false, false, false, false, false, false, false, false, false, false] (v := ?_) ops_76_3_1 rfl ops_76_3_ns (by kernel_rfl) (by kernel_rfl) (fun _ _ _ h => h) (by rfl) ?y10 (by assumption) ?_
  case y10 =>
    intro w hSw
    try dsimp only at hSw
    go_simp
    try with_reducible rfl
  simp only [List.set_cons_zero, List.set_cons_succ]
  refine take_to 4 19 #[true, true, false, false, true, false, false, false, false, false, false, false, false] (v := ?_) ops_76_3_4 rfl ops_76_3_ns (by kernel_rfl) (by kernel_rfl) (fun _ _ _ h => h) (by rfl) ?y40 (by assumption) ?_
  case y40 =>
    intro w hSw
    try dsimp only at hSw
    go_simp
    try with_reducible rfl
  simp only [List.set_cons_zero, List.set_cons_succ]
  refine take_to 5 20 #[true, true, false, false, true, true, false, false, false, false, false, false, false] (v := ?_) ops_76_3_5 rfl ops_76_3_ns (by kernel_rfl) (by kernel_rfl) (fun _ _ _ h => h) (by rfl) ?y50 (by assumption) ?_
  case y50 =>
    intro w hSw
    try dsimp only at hSw
    go_simp
    try with_reducible rfl
  simp only [List.set_cons_zero, List.set_cons_succ]
  refine take_to 7 22 #[true, true, false, false, true, true, false, true, false, false, false, false, false] (v := ?_) ops_76_3_7 rfl ops_76_3_ns (by kernel_rfl) (by kernel_rfl) (fun _ _ _ h => h) (by rfl) ?y70 (by assumption) ?_
  case y70 =>
    intro w hSw
    try dsimp only at hSw
    go_simp
    try with_reducible rfl
  simp only [List.set_cons_zero, List.set_cons_succ]
  refine take_to 8 23 #[true, true, false, false, true, true, false, true, true, false, false, false, false] (v := ?_) ops_76_3_8 rfl ops_76_3_ns (by kernel_rfl) (by kernel_rfl) (fun _ _ _ h => h) (by rfl) ?y80 (by assumption) ?_
  case y80 =>
    intro w hSw
    try dsimp only at hSw
    go_simp
    try with_reducible rfl
  simp only [List.set_cons_zero, List.set_cons_succ]
  refine run_to 2 #[true, true, true, false, true, true, false, true, true, false, false, false, false] ops_76_3_2 (by kernel_rfl) (by kernel_rfl) (by rfl) (fun K hK => ?_)
  go_simp
  refine (key_calls _ _ (by omega)).mono ?_
  rintro e w' ⟨rfl, rfl⟩
  go_wp2_with fail
  refine hK.out _ _ ?_ (fun hHeld => ?_)
  · (exact HS.out _ (by first | assumption | exact hHeld.1 | exact below_step hHeld.1 (by assumption) | exact below_step hHeld.1 (below_alloc _ _)))
  clear hK K
  try simp only [Act.put, List.setIfInBounds_toArray, List.set_cons_zero, List.set_cons_succ]
  refine run_to 3 #[true, true, true, true, true, true, false, true, true, false, false, false, false] ops_76_3_3 (by kernel_rfl) (by kernel_rfl) (by rfl) (fun K hK => ?_)
  go_simp
  refine (unless_calls _ _ _).mono ?_
  rintro e w' ⟨rfl, rfl⟩
  go_wp2_with fail
  refine hK.out _ _ ?_ (fun hHeld => ?_)
  · (exact HS.out _ (by first | assumption | exact hHeld.1 | exact below_step hHeld.1 (by assumption) | exact below_step hHeld.1 (below_alloc _ _)))
  clear hK K
  try simp only [Act.put, List.setIfInBounds_toArray, List.set_cons_zero, List.set_cons_succ]
  refine run_to 6 #[true, true, true, true, true, true, true, true, true, false, false, false, false] ops_76_3_6 (by kernel_rfl) (by kernel_rfl) (by rfl) (fun K hK => ?_)
  go_simp
  refine (unless_calls _ _ _).mono ?_
  rintro e w' ⟨rfl, rfl⟩
  go_wp2_with fail
  refine hK.out _ _ ?_ (fun hHeld => ?_)
  · (exact HS.out _ (by first | assumption | exact hHeld.1 | exact below_step hHeld.1 (by assumption) | exact below_step hHeld.1 (below_alloc _ _)))
  clear hK K
  try simp only [Act.put, List.setIfInBounds_toArray, List.set_cons_zero, List.set_cons_succ]
  refine run_to 9 #[true, true, true, true, true, true, true, true, true, true, false, false, false] ops_76_3_9 (by kernel_rfl) (by kernel_rfl) (by rfl) (fun K hK => ?_)
  go_simp
  refine (HP.out _ (below_step Hb02.out hHeld.1)).mono ?_
  rintro e w' ⟨rfl, hb⟩
  go_wp2_with fail
  refine hK.out _ _ ?_ (fun hHeld => ?_)
  · (exact HS.out _ (by first | assumption | exact hHeld.1 | exact below_step hHeld.1 (by assumption) | exact below_step hHeld.1 (below_alloc _ _)))
  clear hK K
  try simp only [Act.put, List.setIfInBounds_toArray, List.set_cons_zero, List.set_cons_succ]
  refine run_to 10 #[true, true, true, true, true, true, true, true, true, true, true, false, false] ops_76_3_10 (by kernel_rfl) (by kernel_rfl) (by rfl) (fun K hK => ?_)
  go_simp
  refine hK.out _ _ ?_ (fun hHeld => ?_)
  · (exact HS.out _ (by first | assumption | exact hHeld.1 | exact below_step hHeld.1 (by assumption) | exact below_step hHeld.1 (below_alloc _ _)))
  clear hK K
  try simp only [Act.put, List.setIfInBounds_toArray, List.set_cons_zero, List.set_cons_succ]
  refine run_to 11 #[true, true, true, true, true, true, true, true, true, true, true, true, false] ops_76_3_11 (by kernel_rfl) (by kernel_rfl) (by rfl) (fun K hK => ?_)
  go_simp
  refine (orE_calls _ 0 3 [unlessE (keyB c.key) 5, unlessE (!eb) 6, poE c.pos] _ (by simp) (by exact nums3s _ _ _ _ _)).mono ?_
  rintro e w' ⟨rfl, rfl⟩
  go_wp2_with fail
  refine hK.out _ _ ?_ (fun hHeld => ?_)
  · (exact HS.out _ (by first | assumption | exact hHeld.1 | exact below_step hHeld.1 (by assumption) | exact below_step hHeld.1 (below_alloc _ _)))
  clear hK K
  try simp only [Act.put, List.setIfInBounds_toArray, List.set_cons_zero, List.set_cons_succ]
  refine take_to 12 3 #[true, true, true, true, true, true, true, true, true, true, true, true, true] (v := ?_) ops_76_3_12 rfl ops_76_3_ns (by kernel_rfl) (by kernel_rfl) (fun _ _ _ h => h) (by rfl) ?y120 (by assumption) ?_
  case y120 =>
    intro w hSw
    try dsimp only at hSw
    go_simp
    try with_reducible rfl
  simp only [List.set_cons_zero, List.set_cons_succ]
  refine wpAnyH_done (by kernel_rfl) ?_ _
  go_wp2_with fail
  go_ret
  exact ⟨ret_int Hr.out.symm, below_step Hb02.out hHeld.1⟩
set_option maxRecDepth 100000 in
set_option maxHeartbeats 4000000 in
theorem checkSlots_calls (lo : Nat) (v : Value) (xs : List SlD) (w : World) (hR : Sls w lo v xs) (hs : ∀ c ∈ xs, SmallSl c) (hn : xs.length ≤ 1000000) :
    Calls Tryz.prog 24 #[v] w (IntBelow (chkSl xs) w) := by
  obtain ⟨a, c, rfl⟩ := NRows.shape hR
  obtain ⟨W, hW⟩ : ∃ W, W = w.alloc (.cells #[.slice a xs.length c] 26) := ⟨_, rfl⟩
  have hwW : Below w.heap.size w W := by rw [hW]; exact below_alloc w _
  have x0 : W.cell? ⟨w.heap.size, 0, none⟩ = some (.slice a xs.length c) := by rw [hW, World.cell?_alloc_at _ _ _ _ rfl]; rfl
  have Hs := Lib.hid hs
  have Hf := Lib.hid (show ∀ (V V' : World) (i : Nat), Below W.heap.size W V → i < xs.length → Below V.heap.size V V' → Calls Tryz.prog 76 (#[.int .i64 (i : Int)] ++ #[.pointer (some ⟨w.heap.size, 0, none⟩)]) V' (IntBelow (slF xs i) V') from by
    intro V V' i hbV hi hbW
    obtain ⟨r, hr⟩ : ∃ r, xs[i]? = some r := ⟨xs[i], List.getElem?_eq_getElem hi⟩
    have hRW : Sls V' lo (.slice a xs.length c) xs := NRows.below (NRows.below (NRows.below hR hwW) hbV) hbW
    have y0 := below_cell hbW (below_cell hbV x0)
    rcases sls_at hRW with ⟨_, rfl⟩ | ⟨g, off, cap, e, _⟩
    · simp at hi
    · rw [e] at hRW y0
      exact checkSlots1_calls w.heap.size g off cap i lo xs r V' hr (Hs.out r (List.mem_of_getElem? hr)) hn y0 hRW)
  have Hr := Lib.hid (show chkSl xs = firstE [unlessE (decide (0 < xs.length)) 8, eachE xs.length 12 (slF xs)] from rfl)
  have HS := Lib.hid (show ∀ w', Below W.heap.size W w' → (Below W.heap.size W w' ∧ w'.cell? ⟨w.heap.size, 0, none⟩ = some (.slice a xs.length c)) from fun w' hb => ⟨hb, below_cell hb x0⟩)
  have hb0 := (Below.refl W.heap.size W).drew
  clear hs hR x0
  go_enter Tryz.func24, Tryz.ntmps24
  go_upto_region 1 with fail
  rw [← hW]
  clear hW
  show Code.wp _ (Code.region 1 ops_24_1 true) _ _ _
  refine region_start 11 (fun w' => Below W.heap.size W w' ∧ w'.cell? ⟨w.heap.size, 0, none⟩ = some (.slice a xs.length c)) (by kernel_rfl) rfl ?_ (fun hHeld => ?_)
  · (exact HS.out _ (by first | assumption | exact hHeld.1 | exact below_step hHeld.1 (by assumption) | exact below_step hHeld.1 (below_alloc _ _)))
  refine take_to 0 3 #[true, false, false, false, false, false, false, false, false, false, false] (v := ?_) ops_24_1_0 rfl ops_24_1_ns (by kernel_rfl) (by kernel_rfl) (fun _ _ _ h => h) (by rfl) ?y01 (by assumption) ?_
  case y01 =>
    intro w hSw
    try dsimp only at hSw
    go_simp
    try with_reducible rfl
  simp only [List.set_cons_zero, List.set_cons_succ]
  refine take_to 1 4 #[true, true, false, false, false, false, false, false, false, false, false] (v := ?_) ops_24_1_1 rfl ops_24_1_ns (by kernel_rfl) (by kernel_rfl) (fun _ _ _ h => h) (by rfl) ?y11 (by assumption) ?_
  case y11 =>
    intro w hSw
    try dsimp only at hSw
    go_simp
    try with_reducible rfl
  simp only [List.set_cons_zero, List.set_cons_succ]
  refine take_to 2 5 #[true, true, true, false, false, false, false, false, false, false, false] (v := ?_) ops_24_1_2 rfl ops_24_1_ns (by kernel_rfl) (by kernel_rfl) (fun _ _ _ h => h) (by rfl) ?y21 (by assumption) ?_
  case y21 =>
    intro w hSw
    try dsimp only at hSw
    go_simp
    try with_reducible rfl
  simp only [List.set_cons_zero, List.set_cons_succ]
  refine take_to 4 7 #[true, true, true, false, true, false, false, false, false, false, false] (v := ?_) ops_24_1_4 rfl ops_24_1_ns (by kernel_rfl) (by kernel_rfl) (fun _ _ _ h => h) (by rfl) ?y41 (by assumption) ?_
  case y41 =>
    intro w hSw
    try dsimp only at hSw
    go_simp
    try with_reducible rfl
  simp only [List.set_cons_zero, List.set_cons_succ]
  refine take_to 5 8 #[true, true, true, false, true, true, false, false, false, false, false] (v := ?_) ops_24_1_5 rfl ops_24_1_ns (by kernel_rfl) (by kernel_rfl) (fun _ _ _ h => h) (by rfl) ?y51 (by assumption) ?_
  case y51 =>
    intro w hSw
    try dsimp only at hSw
    go_simp
    try with_reducible rfl
  simp only [List.set_cons_zero, List.set_cons_succ]
  refine take_to 6 9 #[true, true, true, false, true, true, true, false, false, false, false] (v := ?_) ops_24_1_6 rfl ops_24_1_ns (by kernel_rfl) (by kernel_rfl) (fun _ _ _ h => h) (by rfl) ?y61 (by assumption) ?_
  case y61 =>
    intro w hSw
    try dsimp only at hSw
    go_simp
    try with_reducible rfl
  simp only [List.set_cons_zero, List.set_cons_succ]
  refine run_to 3 #[true, true, true, true, true, true, true, false, false, false, false] ops_24_1_3 (by kernel_rfl) (by kernel_rfl) (by rfl) (fun K hK => ?_)
  go_simp
  refine (unless_calls _ _ _).mono ?_
  rintro e w' ⟨rfl, rfl⟩
  go_wp2_with fail
  refine hK.out _ _ ?_ (fun hHeld => ?_)
  · (exact HS.out _ (by first | assumption | exact hHeld.1 | exact below_step hHeld.1 (by assumption) | exact below_step hHeld.1 (below_alloc _ _)))
  clear hK K
  try simp only [Act.put, List.setIfInBounds_toArray, List.set_cons_zero, List.set_cons_succ]
  refine run_to 7 #[true, true, true, true, true, true, true, true, false, false, false] ops_24_1_7 (by kernel_rfl) (by kernel_rfl) (by rfl) (fun K hK => ?_)
  go_simp
  refine (each_calls 76 #[.pointer (some ⟨w.heap.size, 0, none⟩)] (enters_of Tryz.func76 (by kernel_rfl) rfl) (slF xs) xs.length 12 _ hn (fun V i h1 h2 => Hf.out _ V i hHeld.1 h1 h2)).mono ?_
  rintro e w' ⟨rfl, hb⟩
  go_wp2_with fail
  refine hK.out _ _ ?_ (fun hHeld => ?_)
  · (exact HS.out _ (by first | assumption | exact hHeld.1 | exact below_step hHeld.1 (by assumption) | exact below_step hHeld.1 (below_alloc _ _)))
  clear hK K
  try simp only [Act.put, List.setIfInBounds_toArray, List.set_cons_zero, List.set_cons_succ]
  refine run_to 8 #[true, true, true, true, true, true, true, true, true, false, false] ops_24_1_8 (by kernel_rfl) (by kernel_rfl) (by rfl) (fun K hK => ?_)
  go_simp
  refine hK.out _ _ ?_ (fun hHeld => ?_)
  · (exact HS.out _ (by first | assumption | exact hHeld.1 | exact below_step hHeld.1 (by assumption) | exact below_step hHeld.1 (below_alloc _ _)))
  clear hK K
  try simp only [Act.put, List.setIfInBounds_toArray, List.set_cons_zero, List.set_cons_succ]
  refine run_to 9 #[true, true, true, true, true, true, true, true, true, true, false] ops_24_1_9 (by kernel_rfl) (by kernel_rfl) (by rfl) (fun K hK => ?_)
  go_simp
  refine (orE_calls _ 0 2 [unlessE (decide (0 < xs.length)) 8, eachE xs.length 12 (slF xs)] _ (by simp) (by exact nums2 _ _ _ _)).mono ?_
  rintro e w' ⟨rfl, rfl⟩
  go_wp2_with fail
  refine hK.out _ _ ?_ (fun hHeld => ?_)
  · (exact HS.out _ (by first | assumption | exact hHeld.1 | exact below_step hHeld.1 (by assumption) | exact below_step hHeld.1 (below_alloc _ _)))
  clear hK K
  try simp only [Act.put, List.setIfInBounds_toArray, List.set_cons_zero, List.set_cons_succ]
  refine take_to 10 2 #[true, true, true, true, true, true, true, true, true, true, true] (v := ?_) ops_24_1_10 rfl ops_24_1_ns (by kernel_rfl) (by kernel_rfl) (fun _ _ _ h => h) (by rfl) ?y101 (by assumption) ?_
  case y101 =>
    intro w hSw
    try dsimp only at hSw
    go_simp
    try with_reducible rfl
  simp only [List.set_cons_zero, List.set_cons_succ]
  refine wpAnyH_done (by kernel_rfl) ?_ _
  go_wp2_with fail
  go_ret
  exact ⟨ret_int Hr.out.symm, below_step hwW hHeld.1⟩
end Go.Proofs.YthlfjfmlmcoihaaGreat
/- What is wrong with a list of scorers of whom none may be in a slot. -/
namespace Go.Proofs.YthlfjfmlmcoihaaGreat
open Go.RowKit

def stAt (ks : List ByteArray) (i : Nat) : ByteArray := ks[i]?.getD ⟨#[]⟩
theorem stAt_some {ks : List ByteArray} {i : Nat} {k : ByteArray} (h : ks[i]? = some k) : stAt ks i = k := by simp [stAt, h]
/-- What is wrong with name i. -/
def wnF (xs : List ScD) (fs : List FiD) (ks : List ByteArray) (i : Nat) : Int :=
  firstE [unlessE (knownB (xs.map ScD.who) (stAt ks i)) 8, unlessE (!cnS (ks.take i) (stAt ks i)) 6, unlessE (!inF fs (stAt ks i)) 13]
def wnE (xs : List ScD) (fs : List FiD) (ks : List ByteArray) : Int := eachE ks.length 20 (wnF xs fs ks)
def zeroO : Obj := .cells #[.string ⟨#[]⟩, .slice none 0 0, .int .i64 0, .int .i64 0, .bool false] 83 (0, 0)
theorem zero_box (w : World) : ∃ X W, w.heap.size = X ∧ w.alloc (.cells #[.string ⟨#[]⟩, .slice none 0 0, .int .i64 0, .int .i64 0, .bool false] 83) = W ∧ W.heap[X]? = some zeroO ∧ Below w.heap.size w W :=
  ⟨_, _, rfl, rfl, heap_alloc_new w _, below_alloc _ _⟩
theorem shareW {A1 A2 A3 A4 : Sort _} {C G : A1 → A2 → A3 → A4 → Prop} {R : Prop} (main : (∀ x1 x2 x3 x4, C x1 x2 x3 x4 → G x1 x2 x3 x4) → R) (tail : ∀ x1 x2 x3 x4, C x1 x2 x3 x4 → G x1 x2 x3 x4) : R := main tail
def ops_132_1 : Array Go.Oper := #[
  { dst := some 9, op := Go.Op.load 28 (Go.Operand.tmp 1), type := 28, pos := "lineup.go:123", after := #[], guard := none },
  { dst := some 10, op := Go.Op.load 39 (Go.Operand.tmp 2), type := 39, pos := "lineup.go:123", after := #[], guard := none },
  { dst := some 11, op := Go.Op.move (Go.Operand.tmp 0), type := 3, pos := "lineup.go:123", after := #[], guard := none },
  { dst := some 12, op := Go.Op.indexAddr 39 (Go.Operand.tmp 10) (Go.Operand.tmp 11), type := 0, pos := "lineup.go:123", after := #[{ on := 1, ground := Go.Ground.data }, { on := 2, ground := Go.Ground.data }], guard := none },
  { dst := some 13, op := Go.Op.load 9 (Go.Operand.tmp 12), type := 9, pos := "lineup.go:123", after := #[{ on := 3, ground := Go.Ground.data }], guard := none },
  { dst := some 14, op := Go.Op.call { callee := Go.Callee.value (Go.Operand.func 56), args := #[Go.Operand.tmp 9, Go.Operand.tmp 13], argTypes := #[28, 9] }, type := 91, pos := "lineup.go:123", after := #[{ on := 0, ground := Go.Ground.data }, { on := 4, ground := Go.Ground.data }], guard := none },
  { dst := some 8, op := Go.Op.move (Go.Operand.tmp 14), type := 91, pos := "lineup.go:123", after := #[{ on := 5, ground := Go.Ground.data }], guard := none },
  { dst := some 15, op := Go.Op.extract (Go.Operand.tmp 8) 0, type := 83, pos := "lineup.go:123", after := #[{ on := 6, ground := Go.Ground.data }], guard := none },
  { dst := some 16, op := Go.Op.extract (Go.Operand.tmp 8) 1, type := 4, pos := "lineup.go:123", after := #[{ on := 6, ground := Go.Ground.data }, { on := 10, ground := Go.Ground.gcOnly Go.Departure.lateStores }], guard := none },
  { dst := some 6, op := Go.Op.alloc 83, type := 0, pos := "lineup.go:123", after := #[], guard := none },
  { dst := none, op := Go.Op.store 83 (Go.Operand.tmp 6) (Go.Operand.tmp 15), type := 0, pos := "lineup.go:123", after := #[{ on := 9, ground := Go.Ground.data }, { on := 7, ground := Go.Ground.data }, { on := 5, ground := Go.Ground.chain }, { on := 0, ground := Go.Ground.phase }, { on := 1, ground := Go.Ground.phase }, { on := 2, ground := Go.Ground.phase }, { on := 3, ground := Go.Ground.phase }, { on := 4, ground := Go.Ground.phase }, { on := 5, ground := Go.Ground.phase }, { on := 6, ground := Go.Ground.phase }, { on := 7, ground := Go.Ground.phase }, { on := 8, ground := Go.Ground.textOnly Go.Departure.lateStores }, { on := 9, ground := Go.Ground.phase }], guard := none },
  { dst := some 7, op := Go.Op.assign (Go.Operand.tmp 16), type := 4, pos := "lineup.go:123", after := #[{ on := 8, ground := Go.Ground.data }, { on := 10, ground := Go.Ground.chain }, { on := 0, ground := Go.Ground.phase }, { on := 1, ground := Go.Ground.phase }, { on := 2, ground := Go.Ground.phase }, { on := 3, ground := Go.Ground.phase }, { on := 4, ground := Go.Ground.phase }, { on := 5, ground := Go.Ground.phase }, { on := 6, ground := Go.Ground.phase }, { on := 7, ground := Go.Ground.phase }, { on := 8, ground := Go.Ground.phase }, { on := 9, ground := Go.Ground.phase }, { on := 10, ground := Go.Ground.phase }], guard := none }]
theorem ops_132_1_0 : ops_132_1[0]? = some ({ dst := some 9, op := Go.Op.load 28 (Go.Operand.tmp 1), type := 28, pos := "lineup.go:123", after := #[], guard := none } : Go.Oper) := rfl
theorem ops_132_1_1 : ops_132_1[1]? = some ({ dst := some 10, op := Go.Op.load 39 (Go.Operand.tmp 2), type := 39, pos := "lineup.go:123", after := #[], guard := none } : Go.Oper) := rfl
theorem ops_132_1_2 : ops_132_1[2]? = some ({ dst := some 11, op := Go.Op.move (Go.Operand.tmp 0), type := 3, pos := "lineup.go:123", after := #[], guard := none } : Go.Oper) := rfl
theorem ops_132_1_3 : ops_132_1[3]? = some ({ dst := some 12, op := Go.Op.indexAddr 39 (Go.Operand.tmp 10) (Go.Operand.tmp 11), type := 0, pos := "lineup.go:123", after := #[{ on := 1, ground := Go.Ground.data }, { on := 2, ground := Go.Ground.data }], guard := none } : Go.Oper) := rfl
theorem ops_132_1_4 : ops_132_1[4]? = some ({ dst := some 13, op := Go.Op.load 9 (Go.Operand.tmp 12), type := 9, pos := "lineup.go:123", after := #[{ on := 3, ground := Go.Ground.data }], guard := none } : Go.Oper) := rfl
theorem ops_132_1_5 : ops_132_1[5]? = some ({ dst := some 14, op := Go.Op.call { callee := Go.Callee.value (Go.Operand.func 56), args := #[Go.Operand.tmp 9, Go.Operand.tmp 13], argTypes := #[28, 9] }, type := 91, pos := "lineup.go:123", after := #[{ on := 0, ground := Go.Ground.data }, { on := 4, ground := Go.Ground.data }], guard := none } : Go.Oper) := rfl
theorem ops_132_1_6 : ops_132_1[6]? = some ({ dst := some 8, op := Go.Op.move (Go.Operand.tmp 14), type := 91, pos := "lineup.go:123", after := #[{ on := 5, ground := Go.Ground.data }], guard := none } : Go.Oper) := rfl
theorem ops_132_1_7 : ops_132_1[7]? = some ({ dst := some 15, op := Go.Op.extract (Go.Operand.tmp 8) 0, type := 83, pos := "lineup.go:123", after := #[{ on := 6, ground := Go.Ground.data }], guard := none } : Go.Oper) := rfl
theorem ops_132_1_8 : ops_132_1[8]? = some ({ dst := some 16, op := Go.Op.extract (Go.Operand.tmp 8) 1, type := 4, pos := "lineup.go:123", after := #[{ on := 6, ground := Go.Ground.data }, { on := 10, ground := Go.Ground.gcOnly Go.Departure.lateStores }], guard := none } : Go.Oper) := rfl
theorem ops_132_1_9 : ops_132_1[9]? = some ({ dst := some 6, op := Go.Op.alloc 83, type := 0, pos := "lineup.go:123", after := #[], guard := none } : Go.Oper) := rfl
theorem ops_132_1_10 : ops_132_1[10]? = some ({ dst := none, op := Go.Op.store 83 (Go.Operand.tmp 6) (Go.Operand.tmp 15), type := 0, pos := "lineup.go:123", after := #[{ on := 9, ground := Go.Ground.data }, { on := 7, ground := Go.Ground.data }, { on := 5, ground := Go.Ground.chain }, { on := 0, ground := Go.Ground.phase }, { on := 1, ground := Go.Ground.phase }, { on := 2, ground := Go.Ground.phase }, { on := 3, ground := Go.Ground.phase }, { on := 4, ground := Go.Ground.phase }, { on := 5, ground := Go.Ground.phase }, { on := 6, ground := Go.Ground.phase }, { on := 7, ground := Go.Ground.phase }, { on := 8, ground := Go.Ground.textOnly Go.Departure.lateStores }, { on := 9, ground := Go.Ground.phase }], guard := none } : Go.Oper) := rfl
theorem ops_132_1_11 : ops_132_1[11]? = some ({ dst := some 7, op := Go.Op.assign (Go.Operand.tmp 16), type := 4, pos := "lineup.go:123", after := #[{ on := 8, ground := Go.Ground.data }, { on := 10, ground := Go.Ground.chain }, { on := 0, ground := Go.Ground.phase }, { on := 1, ground := Go.Ground.phase }, { on := 2, ground := Go.Ground.phase }, { on := 3, ground := Go.Ground.phase }, { on := 4, ground := Go.Ground.phase }, { on := 5, ground := Go.Ground.phase }, { on := 6, ground := Go.Ground.phase }, { on := 7, ground := Go.Ground.phase }, { on := 8, ground := Go.Ground.phase }, { on := 9, ground := Go.Ground.phase }, { on := 10, ground := Go.Ground.phase }], guard := none } : Go.Oper) := rfl
theorem ops_132_1_ns : Go.Region.noSelect ops_132_1 = true := by kernel_rfl
def ops_132_2 : Array Go.Oper := #[
  { dst := some 17, op := Go.Op.move (Go.Operand.tmp 7), type := 4, pos := "lineup.go:124", after := #[], guard := none },
  { dst := some 18, op := Go.Op.call { callee := Go.Callee.value (Go.Operand.func 54), args := #[Go.Operand.tmp 17, Go.Operand.const (Go.Value.int Go.IntKind.i64 8)], argTypes := #[4, 35] }, type := 35, pos := "lineup.go:125", after := #[{ on := 0, ground := Go.Ground.data }], guard := none },
  { dst := some 19, op := Go.Op.load 39 (Go.Operand.tmp 2), type := 39, pos := "lineup.go:124", after := #[], guard := none },
  { dst := some 20, op := Go.Op.move (Go.Operand.tmp 0), type := 3, pos := "lineup.go:124", after := #[], guard := none },
  { dst := some 21, op := Go.Op.slice 39 (Go.Operand.tmp 19) none (some (Go.Operand.tmp 20)) none, type := 39, pos := "lineup.go:124", after := #[{ on := 2, ground := Go.Ground.data }, { on := 3, ground := Go.Ground.data }], guard := none },
  { dst := some 22, op := Go.Op.load 39 (Go.Operand.tmp 2), type := 39, pos := "lineup.go:124", after := #[], guard := none },
  { dst := some 23, op := Go.Op.move (Go.Operand.tmp 0), type := 3, pos := "lineup.go:124", after := #[], guard := none },
  { dst := some 24, op := Go.Op.indexAddr 39 (Go.Operand.tmp 22) (Go.Operand.tmp 23), type := 0, pos := "lineup.go:124", after := #[{ on := 5, ground := Go.Ground.data }, { on := 6, ground := Go.Ground.data }], guard := none },
  { dst := some 25, op := Go.Op.load 9 (Go.Operand.tmp 24), type := 9, pos := "lineup.go:124", after := #[{ on := 7, ground := Go.Ground.data }], guard := none },
  { dst := some 26, op := Go.Op.call { callee := Go.Callee.value (Go.Operand.func 52), args := #[Go.Operand.tmp 21, Go.Operand.tmp 25], argTypes := #[39, 9] }, type := 4, pos := "lineup.go:126", after := #[{ on := 4, ground := Go.Ground.data }, { on := 8, ground := Go.Ground.data }, { on := 1, ground := Go.Ground.chain }], guard := none },
  { dst := some 27, op := Go.Op.unOp Go.UnOp.not 4 (Go.Operand.tmp 26), type := 4, pos := "lineup.go:124", after := #[{ on := 9, ground := Go.Ground.data }], guard := none },
  { dst := some 28, op := Go.Op.call { callee := Go.Callee.value (Go.Operand.func 54), args := #[Go.Operand.tmp 27, Go.Operand.const (Go.Value.int Go.IntKind.i64 6)], argTypes := #[4, 35] }, type := 35, pos := "lineup.go:126", after := #[{ on := 10, ground := Go.Ground.data }, { on := 9, ground := Go.Ground.chain }], guard := none },
  { dst := some 29, op := Go.Op.load 30 (Go.Operand.tmp 3), type := 30, pos := "lineup.go:124", after := #[], guard := none },
  { dst := some 30, op := Go.Op.load 39 (Go.Operand.tmp 2), type := 39, pos := "lineup.go:124", after := #[], guard := none },
  { dst := some 31, op := Go.Op.move (Go.Operand.tmp 0), type := 3, pos := "lineup.go:124", after := #[], guard := none },
  { dst := some 32, op := Go.Op.indexAddr 39 (Go.Operand.tmp 30) (Go.Operand.tmp 31), type := 0, pos := "lineup.go:124", after := #[{ on := 13, ground := Go.Ground.data }, { on := 14, ground := Go.Ground.data }], guard := none },
  { dst := some 33, op := Go.Op.load 9 (Go.Operand.tmp 32), type := 9, pos := "lineup.go:124", after := #[{ on := 15, ground := Go.Ground.data }], guard := none },
  { dst := some 34, op := Go.Op.call { callee := Go.Callee.value (Go.Operand.func 55), args := #[Go.Operand.tmp 29, Go.Operand.tmp 33], argTypes := #[30, 9] }, type := 4, pos := "lineup.go:127", after := #[{ on := 12, ground := Go.Ground.data }, { on := 16, ground := Go.Ground.data }, { on := 11, ground := Go.Ground.chain }], guard := none },
  { dst := some 35, op := Go.Op.unOp Go.UnOp.not 4 (Go.Operand.tmp 34), type := 4, pos := "lineup.go:124", after := #[{ on := 17, ground := Go.Ground.data }], guard := none },
  { dst := some 36, op := Go.Op.call { callee := Go.Callee.value (Go.Operand.func 54), args := #[Go.Operand.tmp 35, Go.Operand.const (Go.Value.int Go.IntKind.i64 13)], argTypes := #[4, 35] }, type := 35, pos := "lineup.go:127", after := #[{ on := 18, ground := Go.Ground.data }, { on := 17, ground := Go.Ground.chain }], guard := none },
  { dst := some 37, op := Go.Op.buildSlice 95 3 #[(0, Go.Operand.tmp 18), (1, Go.Operand.tmp 28), (2, Go.Operand.tmp 36)], type := 95, pos := "lineup.go:124", after := #[{ on := 1, ground := Go.Ground.data }, { on := 11, ground := Go.Ground.data }, { on := 19, ground := Go.Ground.data }], guard := none },
  { dst := some 38, op := Go.Op.call { callee := Go.Callee.value (Go.Operand.func 53), args := #[Go.Operand.tmp 37], argTypes := #[95] }, type := 35, pos := "lineup.go:124", after := #[{ on := 20, ground := Go.Ground.data }, { on := 19, ground := Go.Ground.chain }], guard := none },
  { dst := some 5, op := Go.Op.assign (Go.Operand.tmp 38), type := 35, pos := "lineup.go:124", after := #[{ on := 21, ground := Go.Ground.data }, { on := 21, ground := Go.Ground.chain }, { on := 0, ground := Go.Ground.phase }, { on := 1, ground := Go.Ground.phase }, { on := 2, ground := Go.Ground.phase }, { on := 3, ground := Go.Ground.phase }, { on := 4, ground := Go.Ground.phase }, { on := 5, ground := Go.Ground.phase }, { on := 6, ground := Go.Ground.phase }, { on := 7, ground := Go.Ground.phase }, { on := 8, ground := Go.Ground.phase }, { on := 9, ground := Go.Ground.phase }, { on := 10, ground := Go.Ground.phase }, { on := 11, ground := Go.Ground.phase }, { on := 12, ground := Go.Ground.phase }, { on := 13, ground := Go.Ground.phase }, { on := 14, ground := Go.Ground.phase }, { on := 15, ground := Go.Ground.phase }, { on := 16, ground := Go.Ground.phase }, { on := 17, ground := Go.Ground.phase }, { on := 18, ground := Go.Ground.phase }, { on := 19, ground := Go.Ground.phase }, { on := 20, ground := Go.Ground.phase }, { on := 21, ground := Go.Ground.phase }], guard := none }]
theorem ops_132_2_0 : ops_132_2[0]? = some ({ dst := some 17, op := Go.Op.move (Go.Operand.tmp 7), type := 4, pos := "lineup.go:124", after := #[], guard := none } : Go.Oper) := rfl
theorem ops_132_2_1 : ops_132_2[1]? = some ({ dst := some 18, op := Go.Op.call { callee := Go.Callee.value (Go.Operand.func 54), args := #[Go.Operand.tmp 17, Go.Operand.const (Go.Value.int Go.IntKind.i64 8)], argTypes := #[4, 35] }, type := 35, pos := "lineup.go:125", after := #[{ on := 0, ground := Go.Ground.data }], guard := none } : Go.Oper) := rfl
theorem ops_132_2_2 : ops_132_2[2]? = some ({ dst := some 19, op := Go.Op.load 39 (Go.Operand.tmp 2), type := 39, pos := "lineup.go:124", after := #[], guard := none } : Go.Oper) := rfl
theorem ops_132_2_3 : ops_132_2[3]? = some ({ dst := some 20, op := Go.Op.move (Go.Operand.tmp 0), type := 3, pos := "lineup.go:124", after := #[], guard := none } : Go.Oper) := rfl
theorem ops_132_2_4 : ops_132_2[4]? = some ({ dst := some 21, op := Go.Op.slice 39 (Go.Operand.tmp 19) none (some (Go.Operand.tmp 20)) none, type := 39, pos := "lineup.go:124", after := #[{ on := 2, ground := Go.Ground.data }, { on := 3, ground := Go.Ground.data }], guard := none } : Go.Oper) := rfl
theorem ops_132_2_5 : ops_132_2[5]? = some ({ dst := some 22, op := Go.Op.load 39 (Go.Operand.tmp 2), type := 39, pos := "lineup.go:124", after := #[], guard := none } : Go.Oper) := rfl
theorem ops_132_2_6 : ops_132_2[6]? = some ({ dst := some 23, op := Go.Op.move (Go.Operand.tmp 0), type := 3, pos := "lineup.go:124", after := #[], guard := none } : Go.Oper) := rfl
theorem ops_132_2_7 : ops_132_2[7]? = some ({ dst := some 24, op := Go.Op.indexAddr 39 (Go.Operand.tmp 22) (Go.Operand.tmp 23), type := 0, pos := "lineup.go:124", after := #[{ on := 5, ground := Go.Ground.data }, { on := 6, ground := Go.Ground.data }], guard := none } : Go.Oper) := rfl
theorem ops_132_2_8 : ops_132_2[8]? = some ({ dst := some 25, op := Go.Op.load 9 (Go.Operand.tmp 24), type := 9, pos := "lineup.go:124", after := #[{ on := 7, ground := Go.Ground.data }], guard := none } : Go.Oper) := rfl
theorem ops_132_2_9 : ops_132_2[9]? = some ({ dst := some 26, op := Go.Op.call { callee := Go.Callee.value (Go.Operand.func 52), args := #[Go.Operand.tmp 21, Go.Operand.tmp 25], argTypes := #[39, 9] }, type := 4, pos := "lineup.go:126", after := #[{ on := 4, ground := Go.Ground.data }, { on := 8, ground := Go.Ground.data }, { on := 1, ground := Go.Ground.chain }], guard := none } : Go.Oper) := rfl
theorem ops_132_2_10 : ops_132_2[10]? = some ({ dst := some 27, op := Go.Op.unOp Go.UnOp.not 4 (Go.Operand.tmp 26), type := 4, pos := "lineup.go:124", after := #[{ on := 9, ground := Go.Ground.data }], guard := none } : Go.Oper) := rfl
theorem ops_132_2_11 : ops_132_2[11]? = some ({ dst := some 28, op := Go.Op.call { callee := Go.Callee.value (Go.Operand.func 54), args := #[Go.Operand.tmp 27, Go.Operand.const (Go.Value.int Go.IntKind.i64 6)], argTypes := #[4, 35] }, type := 35, pos := "lineup.go:126", after := #[{ on := 10, ground := Go.Ground.data }, { on := 9, ground := Go.Ground.chain }], guard := none } : Go.Oper) := rfl
theorem ops_132_2_12 : ops_132_2[12]? = some ({ dst := some 29, op := Go.Op.load 30 (Go.Operand.tmp 3), type := 30, pos := "lineup.go:124", after := #[], guard := none } : Go.Oper) := rfl
theorem ops_132_2_13 : ops_132_2[13]? = some ({ dst := some 30, op := Go.Op.load 39 (Go.Operand.tmp 2), type := 39, pos := "lineup.go:124", after := #[], guard := none } : Go.Oper) := rfl
theorem ops_132_2_14 : ops_132_2[14]? = some ({ dst := some 31, op := Go.Op.move (Go.Operand.tmp 0), type := 3, pos := "lineup.go:124", after := #[], guard := none } : Go.Oper) := rfl
theorem ops_132_2_15 : ops_132_2[15]? = some ({ dst := some 32, op := Go.Op.indexAddr 39 (Go.Operand.tmp 30) (Go.Operand.tmp 31), type := 0, pos := "lineup.go:124", after := #[{ on := 13, ground := Go.Ground.data }, { on := 14, ground := Go.Ground.data }], guard := none } : Go.Oper) := rfl
theorem ops_132_2_16 : ops_132_2[16]? = some ({ dst := some 33, op := Go.Op.load 9 (Go.Operand.tmp 32), type := 9, pos := "lineup.go:124", after := #[{ on := 15, ground := Go.Ground.data }], guard := none } : Go.Oper) := rfl
theorem ops_132_2_17 : ops_132_2[17]? = some ({ dst := some 34, op := Go.Op.call { callee := Go.Callee.value (Go.Operand.func 55), args := #[Go.Operand.tmp 29, Go.Operand.tmp 33], argTypes := #[30, 9] }, type := 4, pos := "lineup.go:127", after := #[{ on := 12, ground := Go.Ground.data }, { on := 16, ground := Go.Ground.data }, { on := 11, ground := Go.Ground.chain }], guard := none } : Go.Oper) := rfl
theorem ops_132_2_18 : ops_132_2[18]? = some ({ dst := some 35, op := Go.Op.unOp Go.UnOp.not 4 (Go.Operand.tmp 34), type := 4, pos := "lineup.go:124", after := #[{ on := 17, ground := Go.Ground.data }], guard := none } : Go.Oper) := rfl
theorem ops_132_2_19 : ops_132_2[19]? = some ({ dst := some 36, op := Go.Op.call { callee := Go.Callee.value (Go.Operand.func 54), args := #[Go.Operand.tmp 35, Go.Operand.const (Go.Value.int Go.IntKind.i64 13)], argTypes := #[4, 35] }, type := 35, pos := "lineup.go:127", after := #[{ on := 18, ground := Go.Ground.data }, { on := 17, ground := Go.Ground.chain }], guard := none } : Go.Oper) := rfl
theorem ops_132_2_20 : ops_132_2[20]? = some ({ dst := some 37, op := Go.Op.buildSlice 95 3 #[(0, Go.Operand.tmp 18), (1, Go.Operand.tmp 28), (2, Go.Operand.tmp 36)], type := 95, pos := "lineup.go:124", after := #[{ on := 1, ground := Go.Ground.data }, { on := 11, ground := Go.Ground.data }, { on := 19, ground := Go.Ground.data }], guard := none } : Go.Oper) := rfl
theorem ops_132_2_21 : ops_132_2[21]? = some ({ dst := some 38, op := Go.Op.call { callee := Go.Callee.value (Go.Operand.func 53), args := #[Go.Operand.tmp 37], argTypes := #[95] }, type := 35, pos := "lineup.go:124", after := #[{ on := 20, ground := Go.Ground.data }, { on := 19, ground := Go.Ground.chain }], guard := none } : Go.Oper) := rfl
theorem ops_132_2_22 : ops_132_2[22]? = some ({ dst := some 5, op := Go.Op.assign (Go.Operand.tmp 38), type := 35, pos := "lineup.go:124", after := #[{ on := 21, ground := Go.Ground.data }, { on := 21, ground := Go.Ground.chain }, { on := 0, ground := Go.Ground.phase }, { on := 1, ground := Go.Ground.phase }, { on := 2, ground := Go.Ground.phase }, { on := 3, ground := Go.Ground.phase }, { on := 4, ground := Go.Ground.phase }, { on := 5, ground := Go.Ground.phase }, { on := 6, ground := Go.Ground.phase }, { on := 7, ground := Go.Ground.phase }, { on := 8, ground := Go.Ground.phase }, { on := 9, ground := Go.Ground.phase }, { on := 10, ground := Go.Ground.phase }, { on := 11, ground := Go.Ground.phase }, { on := 12, ground := Go.Ground.phase }, { on := 13, ground := Go.Ground.phase }, { on := 14, ground := Go.Ground.phase }, { on := 15, ground := Go.Ground.phase }, { on := 16, ground := Go.Ground.phase }, { on := 17, ground := Go.Ground.phase }, { on := 18, ground := Go.Ground.phase }, { on := 19, ground := Go.Ground.phase }, { on := 20, ground := Go.Ground.phase }, { on := 21, ground := Go.Ground.phase }], guard := none } : Go.Oper) := rfl
theorem ops_132_2_ns : Go.Region.noSelect ops_132_2 = true := by kernel_rfl
set_option maxRecDepth 100000 in
set_option maxHeartbeats 16000000 in
theorem wrongNames1_calls (b1 b2 b3 g off cap i lo lo' lo3 : Nat) (v u : Value) (xs : List ScD) (fs : List FiD) (ks : List ByteArray) (k : ByteArray) (w : World) (hi : ks[i]? = some k) (hn : ks.length ≤ 1000000)
    (h1 : w.cell? ⟨b1, 0, none⟩ = some v) (hC : Scs w lo v xs) (hlo : lo ≤ w.heap.size) (h2 : w.cell? ⟨b2, 0, none⟩ = some (.slice (some ⟨g, off, none⟩) ks.length cap)) (hK : Strs w lo' (.slice (some ⟨g, off, none⟩) ks.length cap) ks)
    (h3 : w.cell? ⟨b3, 0, none⟩ = some u) (hF : Fis w lo3 u fs) :
    Calls Tryz.prog 132 #[.int .i64 (i : Int), .pointer (some ⟨b1, 0, none⟩), .pointer (some ⟨b2, 0, none⟩), .pointer (some ⟨b3, 0, none⟩)] w (IntBelow (wnF xs fs ks i) w) := by
  have hlt : i < ks.length := (List.getElem?_eq_some_iff.1 hi).1
  rcases strs_at hK with ⟨h, _⟩ | ⟨g', off', cap', e, _, _, _, hcell⟩
  · cases h
  simp only [Value.slice.injEq, Option.some.injEq, Addr.mk.injEq, and_true, true_and] at e
  obtain ⟨⟨rfl, rfl⟩, rfl⟩ := e
  have k0 := hcell i k hi
  have hfit : ks.length ≤ cap := Rows.fits hK
  have hlt' : (i : Int) < (ks.length : Int) := by omega
  have hic : i ≤ cap := by omega
  have hil : i ≤ ks.length := by omega
  have HC := Lib.hid hC
  have HT := Lib.hid (show Strs w lo' (.slice (some ⟨g, off, none⟩) i cap) (ks.take i) from by
    have := rows_take hK (m := i) (by simp) (by omega)
    rw [← List.map_take] at this
    exact this)
  have HF := Lib.hid hF
  obtain ⟨a, c, rfl⟩ := NRows.shape hC
  obtain ⟨a', c', rfl⟩ := fis_shape hF
  have Hr := Lib.hid (show wnF xs fs ks i = firstE [unlessE (knownB (xs.map ScD.who) k) 8, unlessE (!cnS (ks.take i) k) 6, unlessE (!inF fs k) 13] by unfold wnF; rw [stAt_some hi])
  have HS := Lib.hid (show ∀ w', Below w.heap.size w w' → (Below w.heap.size w w' ∧ w'.cell? ⟨b1, 0, none⟩ = some (.slice a xs.length c) ∧ w'.cell? ⟨b2, 0, none⟩ = some (.slice (some ⟨g, off, none⟩) ks.length cap) ∧ w'.cell? ⟨g, off + i, none⟩ = some (.string k) ∧ w'.cell? ⟨b3, 0, none⟩ = some (.slice a' fs.length c')) from fun w' hb => ⟨hb, below_cell hb h1, below_cell hb h2, below_cell hb k0, below_cell hb h3⟩)
  have hC0 := HS.out _ (Below.refl w.heap.size w).drew
  clear hC hF hK hi hcell h1 h2 h3 k0
  go_enter Tryz.func132, Tryz.ntmps132
  go_upto_region 1 with fail
  show Code.wp _ (Code.region 1 ops_132_1 true) _ _ _
  refine regionC_start 12 (fun w' => Below w.heap.size w w' ∧ w'.cell? ⟨b1, 0, none⟩ = some (.slice a xs.length c) ∧ w'.cell? ⟨b2, 0, none⟩ = some (.slice (some ⟨g, off, none⟩) ks.length cap) ∧ w'.cell? ⟨g, off + i, none⟩ = some (.string k) ∧ w'.cell? ⟨b3, 0, none⟩ = some (.slice a' fs.length c')) (fun j => [0, 1, 3, 4, 9].contains j) (by kernel_rfl) rfl ?_
  generalize w.drew = W4 at hC0 ⊢
  apply shareW (C := fun (xa : Option Addr) (xc X : Nat) (W : World) => W.heap[X]? = some zeroO ∧ w.heap.size ≤ X ∧ Below w.heap.size w W)
  · intro tail
    refine takeC 2 11 (v := ?_) ops_132_1_2 rfl (by kernel_rfl) (by kernel_rfl) (by kernel_rfl) (by rfl) (fun _ _ _ h => h) (by rfl) ?y2_1 ?_
    case y2_1 =>
      intro w
      go_simp
      try with_reducible rfl
    simp only [List.set_cons_zero, List.set_cons_succ]
    refine loadC 0 9 (v := ?_) ops_132_1_0 rfl (by kernel_rfl) (by kernel_rfl) (by kernel_rfl) (by kernel_rfl) (fun _ _ _ h => h) (by rfl) ?y0_2 (by exact hC0) ?_
    case y0_2 =>
      intro w hSw
      try dsimp only at hSw
      go_simp
      try with_reducible rfl
    simp only [List.set_cons_zero, List.set_cons_succ]
    refine loadC 1 10 (v := ?_) ops_132_1_1 rfl (by kernel_rfl) (by kernel_rfl) (by kernel_rfl) (by kernel_rfl) (fun _ _ _ h => h) (by rfl) ?y1_3 (by exact hC0) ?_
    case y1_3 =>
      intro w hSw
      try dsimp only at hSw
      go_simp
      try with_reducible rfl
    simp only [List.set_cons_zero, List.set_cons_succ]
    refine loadC 3 12 (v := ?_) ops_132_1_3 rfl (by kernel_rfl) (by kernel_rfl) (by kernel_rfl) (by kernel_rfl) (fun _ _ _ h => h) (by rfl) ?y3_4 (by exact hC0) ?_
    case y3_4 =>
      intro w hSw
      try dsimp only at hSw
      go_simp
      try with_reducible rfl
    simp only [List.set_cons_zero, List.set_cons_succ]
    refine loadC 4 13 (v := ?_) ops_132_1_4 rfl (by kernel_rfl) (by kernel_rfl) (by kernel_rfl) (by kernel_rfl) (fun _ _ _ h => h) (by rfl) ?y4_5 (by exact hC0) ?_
    case y4_5 =>
      intro w hSw
      try dsimp only at hSw
      go_simp
      try with_reducible rfl
    simp only [List.set_cons_zero, List.set_cons_succ]
    refine readyC (rs := [5, 9]) (by kernel_rfl) (by simp) (each_cons (runC ops_132_1_5 (by rfl) (fun K hK => ?_)) (each_cons (runC ops_132_1_9 (by rfl) (fun K hK => ?_)) each_nil))
    · go_simp
      refine (find_calls lo _ xs k _ (NRows.below HC.out hC0.1) (by have := hC0.1.size; omega)).mono ?_
      rintro e w' ⟨x, rfl, hx, hb'⟩
      obtain ⟨xa, xc, rfl⟩ := strs_shape hx
      replace hC0 := HS.out _ (below_step hC0.1 hb')
      try replace hX := cells_later hX hb'
      clear hx hb'
      go_wp2_with fail
      refine hK.out _ _ (fun h => absurd h (by decide)) ?_
      clear hK K
      try simp only [Act.put, List.setIfInBounds_toArray, List.set_cons_zero, List.set_cons_succ]
      refine takeC 6 8 (v := ?_) ops_132_1_6 rfl (by kernel_rfl) (by kernel_rfl) (by kernel_rfl) (by rfl) (fun _ _ _ h => h) (by rfl) ?y6_6 ?_
      case y6_6 =>
        intro w
        go_simp
        try with_reducible rfl
      simp only [List.set_cons_zero, List.set_cons_succ]
      refine takeC 7 15 (v := ?_) ops_132_1_7 rfl (by kernel_rfl) (by kernel_rfl) (by kernel_rfl) (by rfl) (fun _ _ _ h => h) (by rfl) ?y7_7 ?_
      case y7_7 =>
        intro w
        go_simp
        try with_reducible rfl
      simp only [List.set_cons_zero, List.set_cons_succ]
      refine takeC 8 16 (v := ?_) ops_132_1_8 rfl (by kernel_rfl) (by kernel_rfl) (by kernel_rfl) (by rfl) (fun _ _ _ h => h) (by rfl) ?y8_8 ?_
      case y8_8 =>
        intro w
        go_simp
        try with_reducible rfl
      simp only [List.set_cons_zero, List.set_cons_succ]
      refine readyC (rs := [9]) (by kernel_rfl) (by simp) (each_cons (runC ops_132_1_9 (by rfl) (fun K hK => ?_)) each_nil)
      go_simp
      obtain ⟨X, W9, e9, f9, hX, hb9⟩ := zero_box _
      rw [e9, f9]
      have hwX : w.heap.size ≤ X := by rw [← e9]; exact hC0.1.size
      clear e9 f9
      replace hC0 := HS.out _ (below_step hC0.1 hb9)
      clear hb9
      go_wp2_with fail
      refine hK.out _ _ (fun _ => ?_) ?_
      · (exact hC0)
      clear hK K
      try simp only [Act.put, List.setIfInBounds_toArray, List.set_cons_zero, List.set_cons_succ]
      refine sameC (l' := #[true, true, true, true, true, true, true, true, true, true, false, false]) (by kernel_rfl) ?_
      first | exact tail xa xc X W9 ⟨hX, hwX, hC0.1⟩ | exact tail xa xc X w' ⟨hX, hwX, hC0.1⟩
    · go_simp
      obtain ⟨X, W9, e9, f9, hX, hb9⟩ := zero_box _
      rw [e9, f9]
      have hwX : w.heap.size ≤ X := by rw [← e9]; exact hC0.1.size
      clear e9 f9
      replace hC0 := HS.out _ (below_step hC0.1 hb9)
      clear hb9
      go_wp2_with fail
      refine hK.out _ _ (fun _ => ?_) ?_
      · (exact hC0)
      clear hK K
      try simp only [Act.put, List.setIfInBounds_toArray, List.set_cons_zero, List.set_cons_succ]
      refine readyC (rs := [5]) (by kernel_rfl) (by simp) (each_cons (runC ops_132_1_5 (by rfl) (fun K hK => ?_)) each_nil)
      go_simp
      refine (find_calls lo _ xs k _ (NRows.below HC.out hC0.1) (by have := hC0.1.size; omega)).mono ?_
      rintro e w' ⟨x, rfl, hx, hb'⟩
      obtain ⟨xa, xc, rfl⟩ := strs_shape hx
      replace hC0 := HS.out _ (below_step hC0.1 hb')
      try replace hX := cells_later hX hb'
      clear hx hb'
      go_wp2_with fail
      refine hK.out _ _ (fun h => absurd h (by decide)) ?_
      clear hK K
      try simp only [Act.put, List.setIfInBounds_toArray, List.set_cons_zero, List.set_cons_succ]
      refine takeC 6 8 (v := ?_) ops_132_1_6 rfl (by kernel_rfl) (by kernel_rfl) (by kernel_rfl) (by rfl) (fun _ _ _ h => h) (by rfl) ?y6_9 ?_
      case y6_9 =>
        intro w
        go_simp
        try with_reducible rfl
      simp only [List.set_cons_zero, List.set_cons_succ]
      refine takeC 7 15 (v := ?_) ops_132_1_7 rfl (by kernel_rfl) (by kernel_rfl) (by kernel_rfl) (by rfl) (fun _ _ _ h => h) (by rfl) ?y7_10 ?_
      case y7_10 =>
        intro w
        go_simp
        try with_reducible rfl
      simp only [List.set_cons_zero, List.set_cons_succ]
      refine takeC 8 16 (v := ?_) ops_132_1_8 rfl (by kernel_rfl) (by kernel_rfl) (by kernel_rfl) (by rfl) (fun _ _ _ h => h) (by rfl) ?y8_11 ?_
      case y8_11 =>
        intro w
        go_simp
        try with_reducible rfl
      simp only [List.set_cons_zero, List.set_cons_succ]
      refine sameC (l' := #[true, true, true, true, true, true, true, true, true, true, false, false]) (by kernel_rfl) ?_
      first | exact tail xa xc X W9 ⟨hX, hwX, hC0.1⟩ | exact tail xa xc X w' ⟨hX, hwX, hC0.1⟩
  · intro xa xc X W ⟨hX, hwX, hbW⟩
    refine readyC (rs := [10]) (by kernel_rfl) (by simp) (each_cons (runC ops_132_1_10 (by rfl) (fun K hK => ?_)) each_nil)
    unfold zeroO at hX
    have x0 := cell_at hX 0 rfl
    have x1 := cell_at hX 1 rfl
    have x2 := cell_at hX 2 rfl
    have x3 := cell_at hX 3 rfl
    have x4 := cell_at hX 4 rfl
    have f0 := free_of hX 0
    have f1 := free_of hX 1
    have f2 := free_of hX 2
    have f3 := free_of hX 3
    have f4 := free_of hX 4
    go_simp
    refine hK.out _ _ (fun h => absurd h (by decide)) ?_
    clear hK K
    try simp only [List.setIfInBounds_toArray, List.set_cons_zero, List.set_cons_succ]
    refine takeC 11 7 (v := ?_) ops_132_1_11 rfl (by kernel_rfl) (by kernel_rfl) (by kernel_rfl) (by rfl) (fun _ _ _ h => h) (by rfl) ?y11_12 ?_
    case y11_12 =>
      intro w
      go_simp
      try with_reducible rfl
    simp only [List.set_cons_zero, List.set_cons_succ]
    refine doneC (by kernel_rfl) ?_ _
    go_upto_region 2 with fail
    obtain ⟨W2, hW2⟩ : ∃ W2, W2 = ((((W.setCell ⟨X, 0, none⟩ (.string (fndC xs k).who)).setCell ⟨X, 1, none⟩ (.slice xa (fndC xs k).pos.length xc)).setCell ⟨X, 2, none⟩ (.int .i64 (fndC xs k).num)).setCell ⟨X, 3, none⟩ (.int .i64 (fndC xs k).den)).setCell ⟨X, 4, none⟩ (.bool (fndC xs k).played) := ⟨_, rfl⟩
    have hb02 : Below w.heap.size w W2 := by rw [hW2]; exact below_set5 hbW hwX _ _ _ _ _
    rw [← hW2]
    clear hW2 hX hbW hwX
    have HS2 := Lib.hid (show ∀ w', Below W2.heap.size W2 w' → (Below W2.heap.size W2 w' ∧ w'.cell? ⟨b1, 0, none⟩ = some (.slice a xs.length c) ∧ w'.cell? ⟨b2, 0, none⟩ = some (.slice (some ⟨g, off, none⟩) ks.length cap) ∧ w'.cell? ⟨g, off + i, none⟩ = some (.string k) ∧ w'.cell? ⟨b3, 0, none⟩ = some (.slice a' fs.length c')) from fun w' hb => ⟨hb, (HS.out _ (below_step hb02 hb)).2⟩)
    have hb0 := (Below.refl W2.heap.size W2).drew
    generalize knownB (xs.map ScD.who) k = KB at Hr ⊢
    show Code.wp _ (Code.region 2 ops_132_2 true) _ _ _
    refine region_start 23 (fun w' => Below W2.heap.size W2 w' ∧ w'.cell? ⟨b1, 0, none⟩ = some (.slice a xs.length c) ∧ w'.cell? ⟨b2, 0, none⟩ = some (.slice (some ⟨g, off, none⟩) ks.length cap) ∧ w'.cell? ⟨g, off + i, none⟩ = some (.string k) ∧ w'.cell? ⟨b3, 0, none⟩ = some (.slice a' fs.length c')) (by kernel_rfl) rfl ?_ (fun hHeld => ?_)
    · (exact HS2.out _ (by first | assumption | exact hHeld.1 | exact below_step hHeld.1 (by assumption) | exact below_step hHeld.1 (below_alloc _ _)))
    refine take_to 0 17 #[true, false, false, false, false, false, false, false, false, false, false, false, false, false, false, false, false, false, false, false, false, false, false] (v := ?_) ops_132_2_0 rfl ops_132_2_ns (by kernel_rfl) (by kernel_rfl) (fun _ _ _ h => h) (by rfl) ?y02 (by assumption) ?_
    case y02 =>
      intro w hSw
      try dsimp only at hSw
      go_simp
      try with_reducible rfl
    simp only [List.set_cons_zero, List.set_cons_succ]
    refine take_to 2 19 #[true, false, true, false, false, false, false, false, false, false, false, false, false, false, false, false, false, false, false, false, false, false, false] (v := ?_) ops_132_2_2 rfl ops_132_2_ns (by kernel_rfl) (by kernel_rfl) (fun _ _ _ h => h) (by rfl) ?y22 (by assumption) ?_
    case y22 =>
      intro w hSw
      try dsimp only at hSw
      go_simp
      try with_reducible rfl
    simp only [List.set_cons_zero, List.set_cons_succ]
    refine take_to 3 20 #[true, false, true, true, false, false, false, false, false, false, false, false, false, false, false, false, false, false, false, false, false, false, false] (v := ?_) ops_132_2_3 rfl ops_132_2_ns (by kernel_rfl) (by kernel_rfl) (fun _ _ _ h => h) (by rfl) ?y32 (by assumption) ?_
    case y32 =>
      intro w hSw
      try dsimp only at hSw
      go_simp
      try with_reducible rfl
    simp only [List.set_cons_zero, List.set_cons_succ]
    refine take_to 4 21 #[true, false, true, true, true, false, false, false, false, false, false, false, false, false, false, false, false, false, false, false, false, false, false] (v := ?_) ops_132_2_4 rfl ops_132_2_ns (by kernel_rfl) (by kernel_rfl) (fun _ _ _ h => h) (by rfl) ?y42 (by assumption) ?_
    case y42 =>
      intro w hSw
      try dsimp only at hSw
      go_simp
      try with_reducible rfl
    simp only [List.set_cons_zero, List.set_cons_succ]
    refine take_to 5 22 #[true, false, true, true, true, true, false, false, false, false, false, false, false, false, false, false, false, false, false, false, false, false, false] (v := ?_) ops_132_2_5 rfl ops_132_2_ns (by kernel_rfl) (by kernel_rfl) (fun _ _ _ h => h) (by rfl) ?y52 (by assumption) ?_
    case y52 =>
      intro w hSw
      try dsimp only at hSw
      go_simp
      try with_reducible rfl
    simp only [List.set_cons_zero, List.set_cons_succ]
    refine take_to 6 23 #[true, false, true, true, true, true, true, false, false, false, false, false, false, false, false, false, false, false, false, false, false, false, false] (v := ?_) ops_132_2_6 rfl ops_132_2_ns (by kernel_rfl) (by kernel_rfl) (fun _ _ _ h => h) (by rfl) ?y62 (by assumption) ?_
    case y62 =>
      intro w hSw
      try dsimp only at hSw
      go_simp
      try with_reducible rfl
    simp only [List.set_cons_zero, List.set_cons_succ]
    refine take_to 7 24 #[true, false, true, true, true, true, true, true, false, false, false, false, false, false, false, false, false, false, false, false, false, false, false] (v := ?_) ops_132_2_7 rfl ops_132_2_ns (by kernel_rfl) (by kernel_rfl) (fun _ _ _ h => h) (by rfl) ?y72 (by assumption) ?_
    case y72 =>
      intro w hSw
      try dsimp only at hSw
      go_simp
      try with_reducible rfl
    simp only [List.set_cons_zero, List.set_cons_succ]
    refine take_to 8 25 #[true, false, true, true, true, true, true, true, true, false, false, false, false, false, false, false, false, false, false, false, false, false, false] (v := ?_) ops_132_2_8 rfl ops_132_2_ns (by kernel_rfl) (by kernel_rfl) (fun _ _ _ h => h) (by rfl) ?y82 (by assumption) ?_
    case y82 =>
      intro w hSw
      try dsimp only at hSw
      go_simp
      try with_reducible rfl
    simp only [List.set_cons_zero, List.set_cons_succ]
    refine take_to 12 29 #[true, false, true, true, true, true, true, true, true, false, false, false, true, false, false, false, false, false, false, false, false, false, false] (v := ?_) ops_132_2_12 rfl ops_132_2_ns (by kernel_rfl) (by kernel_rfl) (fun _ _ _ h => h) (by rfl) ?y122 (by assumption) ?_
    case y122 =>
      intro w hSw
      try dsimp only at hSw
      go_simp
      try with_reducible rfl
    simp only [List.set_cons_zero, List.set_cons_succ]
    refine take_to 13 30 #[true, false, true, true, true, true, true, true, true, false, false, false, true, true, false, false, false, false, false, false, false, false, false] (v := ?_) ops_132_2_13 rfl ops_132_2_ns (by kernel_rfl) (by kernel_rfl) (fun _ _ _ h => h) (by rfl) ?y132 (by assumption) ?_
    case y132 =>
      intro w hSw
      try dsimp only at hSw
      go_simp
      try with_reducible rfl
    simp only [List.set_cons_zero, List.set_cons_succ]
    refine take_to 14 31 #[true, false, true, true, true, true, true, true, true, false, false, false, true, true, true, false, false, false, false, false, false, false, false] (v := ?_) ops_132_2_14 rfl ops_132_2_ns (by kernel_rfl) (by kernel_rfl) (fun _ _ _ h => h) (by rfl) ?y142 (by assumption) ?_
    case y142 =>
      intro w hSw
      try dsimp only at hSw
      go_simp
      try with_reducible rfl
    simp only [List.set_cons_zero, List.set_cons_succ]
    refine take_to 15 32 #[true, false, true, true, true, true, true, true, true, false, false, false, true, true, true, true, false, false, false, false, false, false, false] (v := ?_) ops_132_2_15 rfl ops_132_2_ns (by kernel_rfl) (by kernel_rfl) (fun _ _ _ h => h) (by rfl) ?y152 (by assumption) ?_
    case y152 =>
      intro w hSw
      try dsimp only at hSw
      go_simp
      try with_reducible rfl
    simp only [List.set_cons_zero, List.set_cons_succ]
    refine take_to 16 33 #[true, false, true, true, true, true, true, true, true, false, false, false, true, true, true, true, true, false, false, false, false, false, false] (v := ?_) ops_132_2_16 rfl ops_132_2_ns (by kernel_rfl) (by kernel_rfl) (fun _ _ _ h => h) (by rfl) ?y162 (by assumption) ?_
    case y162 =>
      intro w hSw
      try dsimp only at hSw
      go_simp
      try with_reducible rfl
    simp only [List.set_cons_zero, List.set_cons_succ]
    refine run_to 1 #[true, true, true, true, true, true, true, true, true, false, false, false, true, true, true, true, true, false, false, false, false, false, false] ops_132_2_1 (by kernel_rfl) (by kernel_rfl) (by rfl) (fun K hK => ?_)
    go_simp
    refine (unless_calls _ _ _).mono ?_
    rintro e w' ⟨rfl, rfl⟩
    go_wp2_with fail
    refine hK.out _ _ ?_ (fun hHeld => ?_)
    · (exact HS2.out _ (by first | assumption | exact hHeld.1 | exact below_step hHeld.1 (by assumption) | exact below_step hHeld.1 (below_alloc _ _)))
    clear hK K
    try simp only [Act.put, List.setIfInBounds_toArray, List.set_cons_zero, List.set_cons_succ]
    refine run_to 9 #[true, true, true, true, true, true, true, true, true, true, false, false, true, true, true, true, true, false, false, false, false, false, false] ops_132_2_9 (by kernel_rfl) (by kernel_rfl) (by rfl) (fun K hK => ?_)
    go_simp
    refine (contains_calls lo' _ (ks.take i) k _ (HT.out.below (hb02.trans (hHeld.1.mono hb02.size)))).mono ?_
    rintro e w' ⟨rfl, rfl⟩
    go_wp2_with fail
    refine hK.out _ _ ?_ (fun hHeld => ?_)
    · (exact HS2.out _ (by first | assumption | exact hHeld.1 | exact below_step hHeld.1 (by assumption) | exact below_step hHeld.1 (below_alloc _ _)))
    clear hK K
    try simp only [Act.put, List.setIfInBounds_toArray, List.set_cons_zero, List.set_cons_succ]
    refine take_to 10 27 #[true, true, true, true, true, true, true, true, true, true, true, false, true, true, true, true, true, false, false, false, false, false, false] (v := ?_) ops_132_2_10 rfl ops_132_2_ns (by kernel_rfl) (by kernel_rfl) (fun _ _ _ h => h) (by rfl) ?y102 (by assumption) ?_
    case y102 =>
      intro w hSw
      try dsimp only at hSw
      go_simp
      try with_reducible rfl
    simp only [List.set_cons_zero, List.set_cons_succ]
    refine run_to 11 #[true, true, true, true, true, true, true, true, true, true, true, true, true, true, true, true, true, false, false, false, false, false, false] ops_132_2_11 (by kernel_rfl) (by kernel_rfl) (by rfl) (fun K hK => ?_)
    go_simp
    refine (unless_calls _ _ _).mono ?_
    rintro e w' ⟨rfl, rfl⟩
    go_wp2_with fail
    refine hK.out _ _ ?_ (fun hHeld => ?_)
    · (exact HS2.out _ (by first | assumption | exact hHeld.1 | exact below_step hHeld.1 (by assumption) | exact below_step hHeld.1 (below_alloc _ _)))
    clear hK K
    try simp only [Act.put, List.setIfInBounds_toArray, List.set_cons_zero, List.set_cons_succ]
    refine run_to 17 #[true, true, true, true, true, true, true, true, true, true, true, true, true, true, true, true, true, true, false, false, false, false, false] ops_132_2_17 (by kernel_rfl) (by kernel_rfl) (by rfl) (fun K hK => ?_)
    go_simp
    refine (fielded_calls lo3 _ fs k _ (HF.out.below (hb02.trans (hHeld.1.mono hb02.size)))).mono ?_
    rintro e w' ⟨rfl, hb⟩
    go_wp2_with fail
    refine hK.out _ _ ?_ (fun hHeld => ?_)
    · (exact HS2.out _ (by first | assumption | exact hHeld.1 | exact below_step hHeld.1 (by assumption) | exact below_step hHeld.1 (below_alloc _ _)))
    clear hK K
    try simp only [Act.put, List.setIfInBounds_toArray, List.set_cons_zero, List.set_cons_succ]
    refine take_to 18 35 #[true, true, true, true, true, true, true, true, true, true, true, true, true, true, true, true, true, true, true, false, false, false, false] (v := ?_) ops_132_2_18 rfl ops_132_2_ns (by kernel_rfl) (by kernel_rfl) (fun _ _ _ h => h) (by rfl) ?y182 (by assumption) ?_
    case y182 =>
      intro w hSw
      try dsimp only at hSw
      go_simp
      try with_reducible rfl
    simp only [List.set_cons_zero, List.set_cons_succ]
    refine run_to 19 #[true, true, true, true, true, true, true, true, true, true, true, true, true, true, true, true, true, true, true, true, false, false, false] ops_132_2_19 (by kernel_rfl) (by kernel_rfl) (by rfl) (fun K hK => ?_)
    go_simp
    refine (unless_calls _ _ _).mono ?_
    rintro e w' ⟨rfl, rfl⟩
    go_wp2_with fail
    refine hK.out _ _ ?_ (fun hHeld => ?_)
    · (exact HS2.out _ (by first | assumption | exact hHeld.1 | exact below_step hHeld.1 (by assumption) | exact below_step hHeld.1 (below_alloc _ _)))
    clear hK K
    try simp only [Act.put, List.setIfInBounds_toArray, List.set_cons_zero, List.set_cons_succ]
    refine run_to 20 #[true, true, true, true, true, true, true, true, true, true, true, true, true, true, true, true, true, true, true, true, true, false, false] ops_132_2_20 (by kernel_rfl) (by kernel_rfl) (by rfl) (fun K hK => ?_)
    go_simp
    refine hK.out _ _ ?_ (fun hHeld => ?_)
    · (exact HS2.out _ (by first | assumption | exact hHeld.1 | exact below_step hHeld.1 (by assumption) | exact below_step hHeld.1 (below_alloc _ _)))
    clear hK K
    try simp only [Act.put, List.setIfInBounds_toArray, List.set_cons_zero, List.set_cons_succ]
    refine run_to 21 #[true, true, true, true, true, true, true, true, true, true, true, true, true, true, true, true, true, true, true, true, true, true, false] ops_132_2_21 (by kernel_rfl) (by kernel_rfl) (by rfl) (fun K hK => ?_)
    go_simp
    refine (orE_calls _ 0 3 [unlessE KB 8, unlessE (!cnS (ks.take i) k) 6, unlessE (!inF fs k) 13] _ (by simp) (by exact nums3s _ _ _ _ _)).mono ?_
    rintro e w' ⟨rfl, rfl⟩
    go_wp2_with fail
    refine hK.out _ _ ?_ (fun hHeld => ?_)
    · (exact HS2.out _ (by first | assumption | exact hHeld.1 | exact below_step hHeld.1 (by assumption) | exact below_step hHeld.1 (below_alloc _ _)))
    clear hK K
    try simp only [Act.put, List.setIfInBounds_toArray, List.set_cons_zero, List.set_cons_succ]
    refine take_to 22 5 #[true, true, true, true, true, true, true, true, true, true, true, true, true, true, true, true, true, true, true, true, true, true, true] (v := ?_) ops_132_2_22 rfl ops_132_2_ns (by kernel_rfl) (by kernel_rfl) (fun _ _ _ h => h) (by rfl) ?y222 (by assumption) ?_
    case y222 =>
      intro w hSw
      try dsimp only at hSw
      go_simp
      try with_reducible rfl
    simp only [List.set_cons_zero, List.set_cons_succ]
    refine wpAnyH_done (by kernel_rfl) ?_ _
    go_wp2_with fail
    go_ret
    exact ⟨ret_int Hr.out.symm, below_step hb02 hHeld.1⟩
set_option maxRecDepth 100000 in
set_option maxHeartbeats 4000000 in
theorem wrongNames_calls (lo lo' lo3 : Nat) (v u z : Value) (xs : List ScD) (fs : List FiD) (ks : List ByteArray) (w : World) (hC : Scs w lo v xs) (hlo : lo ≤ w.heap.size) (hF : Fis w lo3 u fs) (hK : Strs w lo' z ks) (hn : ks.length ≤ 1000000) :
    Calls Tryz.prog 86 #[v, u, z] w (IntBelow (wnE xs fs ks) w) := by
  obtain ⟨W, hW⟩ : ∃ W, W = ((w.alloc (.cells #[v] 28)).alloc (.cells #[u] 30)).alloc (.cells #[z] 39) := ⟨_, rfl⟩
  have hwW : Below w.heap.size w W := by rw [hW]; exact ((below_alloc w _).trans ((below_alloc _ _).mono (by simp))).trans ((below_alloc _ _).mono (by simp; omega))
  have y0 : W.heap[w.heap.size]? = some (.cells #[v] 28 (0, 0)) := by rw [hW]; exact heap_al (heap_al (heap_alloc_new w _) _) _
  have y1 : W.heap[w.heap.size + 1]? = some (.cells #[u] 30 (0, 0)) := by
    have := heap_alloc_new (w.alloc (.cells #[v] 28)) (.cells #[u] 30)
    rw [World.size_alloc] at this
    rw [hW]; exact heap_al this _
  have y2 : W.heap[w.heap.size + 2]? = some (.cells #[z] 39 (0, 0)) := by
    have := heap_alloc_new ((w.alloc (.cells #[v] 28)).alloc (.cells #[u] 30)) (.cells #[z] 39)
    rw [World.size_alloc, World.size_alloc] at this
    rw [hW]; exact this
  have x0 := cell_at y0 0 rfl
  have x1 := cell_at y1 0 rfl
  have x2 := cell_at y2 0 rfl
  have hCW := NRows.below hC hwW
  have hFW := Fis.below hF hwW
  have hKW := Strs.below hK hwW
  have hloW : lo ≤ W.heap.size := Nat.le_trans hlo hwW.size
  have hf : ∀ (V : World) (i : Nat), i < ks.length → Below W.heap.size W V → Calls Tryz.prog 132 (#[.int .i64 (i : Int)] ++ #[.pointer (some ⟨w.heap.size, 0, none⟩), .pointer (some ⟨w.heap.size + 2, 0, none⟩), .pointer (some ⟨w.heap.size + 1, 0, none⟩)]) V (IntBelow (wnF xs fs ks i) V) := by
    intro V i hi hb
    obtain ⟨k, hk⟩ : ∃ k, ks[i]? = some k := ⟨_, List.getElem?_eq_getElem hi⟩
    have hKV := hKW.below hb
    have z2 := below_cell hb x2
    rcases strs_at hKV with ⟨_, h⟩ | ⟨g, off, cap, e, _⟩
    · subst h; simp at hi
    · rw [e] at hKV z2
      exact wrongNames1_calls w.heap.size (w.heap.size + 2) (w.heap.size + 1) g off cap i lo lo' lo3 v u xs fs ks k V hk hn (below_cell hb x0) (NRows.below hCW hb) (Nat.le_trans hloW hb.size) z2 hKV (below_cell hb x1) (hFW.below hb)
  have C := Lib.hid (each_calls 132 #[.pointer (some ⟨w.heap.size, 0, none⟩), .pointer (some ⟨w.heap.size + 2, 0, none⟩), .pointer (some ⟨w.heap.size + 1, 0, none⟩)] (enters_of Tryz.func132 (by kernel_rfl) rfl) (wnF xs fs ks) ks.length 20 W hn hf)
  have HR := Lib.hid (show wnE xs fs ks = eachE ks.length 20 (wnF xs fs ks) from rfl)
  generalize wnE xs fs ks = R at HR ⊢
  obtain ⟨a, c, rfl⟩ := NRows.shape hC
  obtain ⟨a', c', rfl⟩ := fis_shape hF
  obtain ⟨ka, kc, rfl⟩ := strs_shape hK
  clear hf hCW hFW hKW hC hF hK y0 y1 y2
  go_enter Tryz.func86, Tryz.ntmps86
  go_upto_region 1 with fail
  rw [← hW]
  clear hW
  go_wp2_with fail
  refine C.out.mono ?_
  rintro e w' ⟨rfl, hb⟩
  go_wp2_with fail
  go_ret
  exact ⟨ret_int HR.out.symm, below_step hwW hb⟩
end Go.Proofs.YthlfjfmlmcoihaaGreat
/- ScorersFault: the reference's way comes to the same. -/
namespace Go.Proofs.YthlfjfmlmcoihaaGreat
open Go.RowKit

def lastC (xs : List ScD) (k : Nat) : ByteArray := if k = 0 then ⟨#[]⟩ else (scAt xs (k - 1)).who
theorem sc_name {xs : List ScD} {k : Nat} {c : ScD} (h : xs[k]? = some c) (hn : keyB c.who = false) : scF xs k = 5 := by
  unfold scF
  rw [scAt_some h, hn]
  simp [unlessE, firstE]
theorem sc_ord {xs : List ScD} {k : Nat} (h : keyB (scAt xs k).who = true) : ltS (lastC xs k) (scAt xs k).who = (decide (k = 0) || ltS (scAt xs (k - 1)).who (scAt xs k).who) := by
  unfold lastC
  by_cases h0 : k = 0
  · subst h0; simp [lt_empty h]
  · simp [h0]
theorem sc_order {xs : List ScD} {k : Nat} {c : ScD} (h : xs[k]? = some c) (hn : keyB c.who = true) (ho : ltS (lastC xs k) c.who = false) : scF xs k = 7 := by
  have h2 := sc_ord (xs := xs) (k := k) (by rw [scAt_some h]; exact hn)
  rw [scAt_some h, ho] at h2
  unfold scF
  rw [scAt_some h, ← h2, hn]
  simp [unlessE, firstE]
theorem sc_rest {xs : List ScD} {k : Nat} {c : ScD} (h : xs[k]? = some c) (hn : keyB c.who = true) (ho : ltS (lastC xs k) c.who = true) : scF xs k = firstE [lfE true c.pos, wrongF c.num c.den 10000] := by
  have h2 := sc_ord (xs := xs) (k := k) (by rw [scAt_some h]; exact hn)
  rw [scAt_some h, ho] at h2
  unfold scF
  rw [scAt_some h, ← h2, hn, poE_eq]
  simp [unlessE, firstE]
set_option maxRecDepth 100000 in
set_option maxHeartbeats 8000000 in
theorem scorersFault_calls (lo : Nat) (v : Value) (xs : List ScD) (w : World) (hR : Scs w lo v xs) (hs : ∀ c ∈ xs, SmallSc c) (hn : xs.length ≤ 1000000) :
    Calls Tryz.prog 15 #[v] w (IntBelow (chkSc xs) w) := by
  have hat := scs_at hR
  obtain ⟨ra, rc, hv⟩ := NRows.shape hR
  have Hs := Lib.hid hs
  have Hat := Lib.hid hat
  rw [hv] at Hat ⊢
  clear hs hR hat hv
  by_cases hm : xs.length ≤ 20
  · have Hm := Lib.hid (show (xs.length : Int) ≤ 20 by omega)
    go_enter Tryz.func15, Tryz.ntmps15
    go_wp2_with fail
    go_loopw [3, 13] (fun last i wr => ∃ k : Nat, k ≤ xs.length ∧ i = .int .i64 k ∧ last = .string (lastC xs k) ∧ Hid (∀ i, i < k → scF xs i = 0) ∧ Below w.heap.size w wr) (fun _ i _ => xs.length - (intOf i).toNat)
    case atStart => exact ⟨0, Nat.zero_le _, rfl, rfl, Lib.hid (fun i hi => by omega), Below.refl _ _⟩
    case round =>
      obtain ⟨k, hk, rfl, rfl, H0, hb⟩ := hrel
      by_cases hlt : k < xs.length
      · obtain ⟨c, hc⟩ : ∃ c, xs[k]? = some c := ⟨xs[k], List.getElem?_eq_getElem hlt⟩
        have Hlast := Lib.hid (show lastC xs (k + 1) = c.who by unfold lastC; rw [if_neg (by omega), Nat.add_sub_cancel, scAt_some hc])
        obtain ⟨s1, s2, s3, s4, s5⟩ := Hs.out c (List.mem_of_getElem? hc)
        have S4 := Lib.hid s4
        have S5 := Lib.hid s5
        have Hnm := Lib.hid (fun h => sc_name hc h)
        have Hor := Lib.hid (fun h1 h2 => sc_order hc h1 h2)
        have Hre := Lib.hid (fun h1 h2 => sc_rest hc h1 h2)
        have Hhit := Lib.hid (fun (h : scF xs k ≠ 0) => (show chkSc xs = scF xs k from eachE_hit Hm.out hlt H0.out h))
        have Hnext := Lib.hid (fun (h : scF xs k = 0) i (hi : i < k + 1) => (show scF xs i = 0 by
          rcases Nat.lt_succ_iff_lt_or_eq.1 hi with h' | rfl
          · exact H0.out i h'
          · exact h))
        rcases Hat.out with ⟨_, h⟩ | ⟨g, off, cap, e, _, hg, _, hcell⟩
        · rw [h] at hlt; simp at hlt
        simp only [Value.slice.injEq] at e
        obtain ⟨rfl, -, rfl⟩ := e
        obtain ⟨pv, q0, q1, q2, q3, q4, hpv⟩ := hcell k c hc
        obtain ⟨pa, pc, rfl⟩ := strs_shape hpv
        have p0 := below_cell hb q0
        have p1 := below_cell hb q1
        have p2 := below_cell hb q2
        have p3 := below_cell hb q3
        have p4 := below_cell hb q4
        have HL := Lib.hid (fun w' (hb' : Below w.heap.size w w') => listFault_calls true lo _ c.pos w' (hpv.below hb') s3 (by omega))
        clear hc s2 s3 s4 s5 hcell q0 q1 q2 q3 q4 hpv
        go_upto_region 7 with fail
        obtain ⟨wA, hwA⟩ : ∃ wA, wA = wr.alloc (.cells #[.string c.who, .slice pa c.pos.length pc, .int .i64 c.num, .int .i64 c.den, .bool c.played] 83) := ⟨_, rfl⟩
        obtain ⟨X, hX⟩ : ∃ X, X = wr.heap.size := ⟨_, rfl⟩
        have hbA : Below w.heap.size w wA := by rw [hwA]; exact below_step hb (below_alloc wr _)
        have hx : wA.heap[X]? = some (.cells #[.string c.who, .slice pa c.pos.length pc, .int .i64 c.num, .int .i64 c.den, .bool c.played] 83 (0, 0)) := by rw [hwA, hX]; exact heap_alloc_new wr _
        rw [← hwA, ← hX]
        have x0 := cell_at hx 0 rfl
        have x1 := cell_at hx 1 rfl
        have x2 := cell_at hx 2 rfl
        have x3 := cell_at hx 3 rfl
        have Hx := Lib.hid hx
        have HbA := Lib.hid hbA
        clear hwA hX hbA hx hb p0 p1 p2 p3 p4
        cases hnm : keyB c.who
        · have HN := Lib.hid (Hnm.out hnm)
          have HK := Lib.hid hnm
          clear hnm
          go_wp2_with fail
          refine (keyR_calls _ _ (by omega)).mono ?_
          rintro e w' ⟨rfl, rfl⟩
          rw [HK.out]
          go_wp2_with fail
          go_ret
          exact ⟨ret_int (by rw [Hhit.out (by rw [HN.out]; omega), HN.out]), HbA.out⟩
        · have HK := Lib.hid hnm
          cases ho : ltS (lastC xs k) c.who
          · have HO := Lib.hid (Hor.out hnm ho)
            have ho' : (Op.bytesLess c.who.toList (lastC xs k).toList || c.who.toList == (lastC xs k).toList) = true := by rw [leS_eq, ho]; rfl
            clear hnm ho
            go_wp2_with fail
            refine (keyR_calls _ _ (by omega)).mono ?_
            rintro e w' ⟨rfl, rfl⟩
            rw [HK.out]
            go_wp2_with fail
            go_ret
            exact ⟨ret_int (by rw [Hhit.out (by rw [HO.out]; omega), HO.out]), HbA.out⟩
          · have HRE := Lib.hid (Hre.out hnm ho)
            have ho' : (Op.bytesLess c.who.toList (lastC xs k).toList || c.who.toList == (lastC xs k).toList) = false := by rw [leS_eq, ho]; rfl
            clear hnm ho
            go_wp2_with fail
            refine (keyR_calls _ _ (by omega)).mono ?_
            rintro e w' ⟨rfl, rfl⟩
            rw [HK.out]
            go_wp2_with fail
            refine (HL.out wA HbA.out).mono ?_
            rintro e w' ⟨rfl, rfl⟩
            by_cases hp : lfE true c.pos = 0
            · have e1 : (lfE true c.pos != 0) = false := by simp [hp]
              have HRG := Lib.hid (show scF xs k = wrongF c.num c.den 10000 by rw [HRE.out, hp]; simp [firstE]; intro h; exact h.symm)
              have HC := Lib.hid (pointsFault_calls c.num c.den wA S4.out S5.out)
              clear hp
              unfold frV at HC
              go_wp2_with fail
              refine HC.out.mono ?_
              rintro e w' ⟨rfl, hb'⟩
              have hx' := cells_later Hx.out hb'
              have z0 := cell_at hx' 0 rfl
              have hb2 := below_step HbA.out hb'
              rw [← HRG.out]
              clear hx' hb'
              by_cases hz : scF xs k = 0
              · have e2 : (scF xs k != 0) = false := by simp [hz]
                have HN := Lib.hid (Hnext.out hz)
                clear hz
                go_wp2_with fail
                go_roundw
                case rel => exact ⟨k + 1, by omega, by go_num, by rw [Hlast.out], HN, hb2⟩
                case measure => simp [intOf]; omega
              · have e2 : (scF xs k != 0) = true := by simp [hz]
                have HN := Lib.hid (Hhit.out hz)
                clear hz
                go_wp2_with fail
                go_ret
                exact ⟨ret_int HN.out.symm, hb2⟩
            · have e1 : (lfE true c.pos != 0) = true := by simp [hp]
              have HP := Lib.hid (show scF xs k = lfE true c.pos by rw [HRE.out]; simp [firstE, hp])
              have HZ := Lib.hid hp
              clear hp
              go_wp2_with fail
              go_ret
              exact ⟨ret_int (by rw [Hhit.out (by rw [HP.out]; exact HZ.out), HP.out]), HbA.out⟩
      · obtain rfl : k = xs.length := by omega
        have HN := Lib.hid (show chkSc xs = 0 from eachE_none Hm.out H0.out)
        go_wp2_with fail
        go_ret
        exact ⟨ret_int HN.out.symm, hb⟩
  · have HN := Lib.hid (show chkSc xs = 2 by unfold chkSc eachE; rw [if_pos (by omega)])
    go_enter Tryz.func15, Tryz.ntmps15
    go_wp2_with fail
    go_ret
    exact ⟨ret_int HN.out.symm, Below.refl _ _⟩
end Go.Proofs.YthlfjfmlmcoihaaGreat
/- What is wrong with slots, and then with scorers. -/
namespace Go.Proofs.YthlfjfmlmcoihaaGreat
open Go.RowKit

def sdE (ss : List SlD) (cs : List ScD) : Int := firstE [chkSl ss, chkSc cs]
set_option maxHeartbeats 1000000 in
theorem wrongSides_calls (lo lo' : Nat) (v u : Value) (ss : List SlD) (cs : List ScD) (w : World) (hS : Sls w lo v ss) (hs : ∀ c ∈ ss, SmallSl c) (hsn : ss.length ≤ 1000000) (hC : Scs w lo' u cs) (hc : ∀ c ∈ cs, SmallSc c) (hcn : cs.length ≤ 1000000) :
    Calls Tryz.prog 82 #[v, u] w (IntBelow (sdE ss cs) w) := by
  have C1 := Lib.hid (checkSlots_calls lo v ss w hS hs hsn)
  have C2 := fun w' (hb : Below w.heap.size w w') => Lib.hid (checkScorers_calls lo' u cs w' (NRows.below hC hb) hc hcn)
  obtain ⟨a, c, rfl⟩ := NRows.shape hS
  obtain ⟨a', c', rfl⟩ := NRows.shape hC
  clear hS hs hC hc
  go_enter Tryz.func82, Tryz.ntmps82
  go_wp2_with fail
  refine C1.out.mono ?_
  rintro e w1 ⟨rfl, hb1⟩
  go_wp2_with fail
  refine (C2 w1 hb1).out.mono ?_
  rintro e w2 ⟨rfl, hb2⟩
  go_wp2_with fail
  refine (orE_calls _ 0 2 [chkSl ss, chkSc cs] _ (by simp) (by exact nums2 _ _ _ _)).mono ?_
  rintro e w3 ⟨rfl, rfl⟩
  go_wp2_with fail
  go_ret
  exact ⟨rfl, below_step (below_step hb1 hb2) (below_alloc _ _)⟩
end Go.Proofs.YthlfjfmlmcoihaaGreat
namespace Go.Proofs.YthlfjfmlmcoihaaGreat
open Go.RowKit

def IdxFirstS (p : ByteArray → Bool) (ks : List ByteArray) (w : World) (e : Ending) (w' : World) : Prop :=
  ((e = .returned (.int .i64 (-1)) ∧ ∀ k ∈ ks, p k = false) ∨ ∃ i k, e = .returned (.int .i64 ((i : Nat) : Int)) ∧ ks[i]? = some k ∧ p k = true ∧ ∀ j g, j < i → ks[j]? = some g → p g = false) ∧ Below w.heap.size w w'
set_option maxRecDepth 100000 in
set_option maxHeartbeats 1000000 in
theorem indexSF_calls (g : Nat) (caps : Array Value) (p : ByteArray → Bool) (lo : Nat) (v : Value) (ks : List ByteArray) (w : World) (hv : Strs w lo v ks) (eg : ∀ args w, (callFunc g args).run Tryz.prog w = .ok (.enter g args) w)
    (hp : ∀ (W : World) (k : ByteArray), k ∈ ks → Below w.heap.size w W → Calls Tryz.prog g (#[.string k] ++ caps) W (BoolIs (p k) W)) :
    Calls Tryz.prog 92 #[v, .func (.func g) #[] caps] w (IdxFirstS p ks w) := by
  have Hp := Lib.hid hp
  clear hp
  rcases strs_at hv with ⟨rfl, rfl⟩ | ⟨gg, off, cap, rfl, hlo, hg, hn, hcell⟩
  · clear hv
    go_enter Tryz.func92, Tryz.ntmps92
    go_wp2_with fail
    refine wp_loop_rounds 1 ?_
    rw [rounds_succ]
    go_wp2_with fail
    go_ret
    exact ⟨.inl ⟨rfl, by simp⟩, Below.refl _ _⟩
  · have Hc := Lib.hid hcell
    clear hv hcell
    go_enter Tryz.func92, Tryz.ntmps92
    go_wp2_with fail
    go_loopw [8] (fun i wr => ∃ k : Nat, k ≤ ks.length ∧ i = .int .i64 k ∧ Hid (∀ j g, j < k → ks[j]? = some g → p g = false) ∧ Below w.heap.size w wr) (fun i _ => ks.length - (intOf i).toNat)
    case atStart => exact ⟨0, Nat.zero_le _, rfl, Lib.hid fun _ _ h => by omega, Below.refl _ _⟩
    case round =>
      obtain ⟨k, hk, rfl, H0, hb⟩ := hrel
      by_cases hlt : k < ks.length
      · obtain ⟨f, hf⟩ : ∃ f, ks[k]? = some f := ⟨ks[k], List.getElem?_eq_getElem hlt⟩
        have g0 := below_cell hb (Hc.out k f hf)
        have Hf := Lib.hid hf
        clear hf
        go_wp2_with fail
        refine (Hp.out _ f (List.mem_of_getElem? Hf.out) hb).mono ?_
        rintro e w1 ⟨rfl, hb1⟩
        have hb2 := below_step hb hb1
        clear g0
        cases hpf : p f
        · have H1 : Hid (∀ j g, j < k + 1 → ks[j]? = some g → p g = false) := Lib.hid fun j g hj hg' => by
            rcases Nat.lt_succ_iff_lt_or_eq.1 hj with h | rfl
            · exact H0.out j g h hg'
            · rw [Hf.out] at hg'; cases hg'; exact hpf
          clear hpf
          go_wp2_with fail
          go_roundw
          case rel => exact ⟨k + 1, by omega, by go_num, H1, hb2⟩
          case measure => simp [intOf]; omega
        · have Hq := Lib.hid hpf
          clear hpf
          go_wp2_with fail
          go_ret
          exact ⟨.inr ⟨k, f, rfl, Hf.out, Hq.out, H0.out⟩, hb2⟩
      · obtain rfl : k = ks.length := by omega
        go_wp2_with fail
        go_ret
        refine ⟨.inl ⟨rfl, fun f hf => ?_⟩, hb⟩
        obtain ⟨i, hi⟩ := List.getElem?_of_mem hf
        exact H0.out i f (List.getElem?_eq_some_iff.1 hi).1 hi
theorem containsSF_calls (g : Nat) (caps : Array Value) (p : ByteArray → Bool) (lo : Nat) (v : Value) (ks : List ByteArray) (w : World) (hv : Strs w lo v ks) (eg : ∀ args w, (callFunc g args).run Tryz.prog w = .ok (.enter g args) w)
    (hp : ∀ (W : World) (k : ByteArray), k ∈ ks → Below w.heap.size w W → Calls Tryz.prog g (#[.string k] ++ caps) W (BoolIs (p k) W)) :
    Calls Tryz.prog 50 #[v, .func (.func g) #[] caps] w (BoolIs (ks.any p) w) := by
  have C := Lib.hid (indexSF_calls g caps p lo v ks w hv eg hp)
  obtain ⟨a, c, rfl⟩ := strs_shape hv
  clear hv hp eg
  go_enter Tryz.func50, Tryz.ntmps50
  go_wp2_with fail
  refine C.out.mono ?_
  rintro e w1 ⟨⟨rfl, h0⟩ | ⟨i, f, rfl, hf, hpf, _⟩, hb⟩
  · have hr : ks.any p = false := by rw [List.any_eq_false]; intro x hx; rw [h0 x hx]; simp
    clear C h0
    go_wp2_with fail
    go_ret
    exact ⟨ret_bool (by rw [hr]), hb⟩
  · have hr : ks.any p = true := List.any_eq_true.2 ⟨f, List.mem_of_getElem? hf, hpf⟩
    clear C hf hpf
    go_wp2_with fail
    go_ret
    exact ⟨ret_bool (by rw [hr]), hb⟩
def slV (s : SlD) (x : Value) : Value := .agg #[.string s.key, x]
def scV (c : ScD) (x : Value) : Value := .agg #[.string c.who, x, .int .i64 c.num, .int .i64 c.den, .bool c.played]
/-- Has a scorer one of the positions of a slot? -/
def fitB (s : SlD) (c : ScD) : Bool := s.pos.any fun p => cnS c.pos p
def suitB (c : ScD) (s : SlD) : Bool := c.pos.any fun p => cnS s.pos p
theorem cnS_iff {ks : List ByteArray} {x : ByteArray} : cnS ks x = true ↔ x ∈ ks := by
  exact Lib.containsS_iff ks x
theorem suit_fit (c : ScD) (s : SlD) : suitB c s = fitB s c := by
  rw [Bool.eq_iff_iff]
  unfold suitB fitB
  simp only [List.any_eq_true, cnS_iff]
  constructor
  · rintro ⟨p, h1, h2⟩; exact ⟨p, h2, h1⟩
  · rintro ⟨p, h1, h2⟩; exact ⟨p, h2, h1⟩
theorem suits1_calls (lo : Nat) (pv : Value) (s : SlD) (k : ByteArray) (X : Nat) (w : World) (hK : Strs w lo pv s.pos) (hX : w.cell? ⟨X, 1, none⟩ = some pv) :
    Calls Tryz.prog 128 #[.string k, .pointer (some ⟨X, 0, none⟩)] w (BoolIs (cnS s.pos k) w) := by
  have C := Lib.hid (contains_calls lo pv s.pos k w hK)
  obtain ⟨a, c, rfl⟩ := strs_shape hK
  clear hK
  go_enter Tryz.func128, Tryz.ntmps128
  go_wp2_with fail
  refine C.out.mono ?_
  rintro e w1 ⟨rfl, rfl⟩
  go_wp2_with fail
  go_ret
  exact ⟨rfl, Below.refl _ _⟩
theorem fit1_calls (lo : Nat) (pv : Value) (c : ScD) (k : ByteArray) (X : Nat) (w : World) (hK : Strs w lo pv c.pos) (hX : w.cell? ⟨X, 1, none⟩ = some pv) :
    Calls Tryz.prog 121 #[.string k, .pointer (some ⟨X, 0, none⟩)] w (BoolIs (cnS c.pos k) w) := by
  have C := Lib.hid (contains_calls lo pv c.pos k w hK)
  obtain ⟨a, c, rfl⟩ := strs_shape hK
  clear hK
  go_enter Tryz.func121, Tryz.ntmps121
  go_wp2_with fail
  refine C.out.mono ?_
  rintro e w1 ⟨rfl, rfl⟩
  go_wp2_with fail
  go_ret
  exact ⟨rfl, Below.refl _ _⟩
set_option maxHeartbeats 1000000 in
theorem suits_calls (lo lo' : Nat) (cv sv : Value) (c : ScD) (s : SlD) (w : World) (hc : Strs w lo cv c.pos) (hs : Strs w lo' sv s.pos) :
    Calls Tryz.prog 84 #[scV c cv, slV s sv] w (BoolIs (suitB c s) w) := by
  obtain ⟨W, hW⟩ : ∃ W, W = (w.alloc (.cells #[.string c.who, cv, .int .i64 c.num, .int .i64 c.den, .bool c.played] 83)).alloc (.cells #[.string s.key, sv] 78) := ⟨_, rfl⟩
  have hb0 : Below w.heap.size w W := by rw [hW]; exact (below_alloc w _).trans ((below_alloc _ _).mono (by simp))
  have x1 : W.cell? ⟨w.heap.size, 1, none⟩ = some cv := by rw [hW]; exact cell_at (heap_al (heap_alloc_new w _) _) 1 rfl
  have y1 : W.cell? ⟨w.heap.size + 1, 1, none⟩ = some sv := by
    have := heap_alloc_new (w.alloc (.cells #[.string c.who, cv, .int .i64 c.num, .int .i64 c.den, .bool c.played] 83)) (.cells #[.string s.key, sv] 78)
    rw [World.size_alloc] at this
    rw [hW]; exact cell_at this 1 rfl
  have C := Lib.hid (containsSF_calls 128 #[.pointer (some ⟨w.heap.size + 1, 0, none⟩)] (fun p => cnS s.pos p) lo cv c.pos W (hc.below hb0) (by intro args w; go_simp) (fun V k _ hb => suits1_calls lo' sv s k (w.heap.size + 1) V ((hs.below hb0).below hb) (below_cell hb y1)))
  have HW := Lib.hid hW
  obtain ⟨a, cc, rfl⟩ := strs_shape hc
  obtain ⟨a', cc', rfl⟩ := strs_shape hs
  unfold scV slV
  clear hc hs hW
  go_enter Tryz.func84, Tryz.ntmps84
  go_upto_region 1 with fail
  rw [← HW.out]
  clear HW
  go_wp2_with fail
  refine C.out.mono ?_
  rintro e w1 ⟨rfl, hb⟩
  clear C
  go_wp2_with fail
  go_ret
  exact ⟨rfl, below_step hb0 hb⟩
set_option maxHeartbeats 1000000 in
theorem fit_calls (lo lo' : Nat) (cv sv : Value) (c : ScD) (s : SlD) (w : World) (hc : Strs w lo cv c.pos) (hs : Strs w lo' sv s.pos) :
    Calls Tryz.prog 68 #[slV s sv, scV c cv] w (BoolIs (fitB s c) w) := by
  obtain ⟨W, hW⟩ : ∃ W, W = (w.alloc (.cells #[.string s.key, sv] 78)).alloc (.cells #[.string c.who, cv, .int .i64 c.num, .int .i64 c.den, .bool c.played] 83) := ⟨_, rfl⟩
  have hb0 : Below w.heap.size w W := by rw [hW]; exact (below_alloc w _).trans ((below_alloc _ _).mono (by simp))
  have x1 : W.cell? ⟨w.heap.size, 1, none⟩ = some sv := by rw [hW]; exact cell_at (heap_al (heap_alloc_new w _) _) 1 rfl
  have y1 : W.cell? ⟨w.heap.size + 1, 1, none⟩ = some cv := by
    have := heap_alloc_new (w.alloc (.cells #[.string s.key, sv] 78)) (.cells #[.string c.who, cv, .int .i64 c.num, .int .i64 c.den, .bool c.played] 83)
    rw [World.size_alloc] at this
    rw [hW]; exact cell_at this 1 rfl
  have C := Lib.hid (containsSF_calls 121 #[.pointer (some ⟨w.heap.size + 1, 0, none⟩)] (fun p => cnS c.pos p) lo' sv s.pos W (hs.below hb0) (by intro args w; go_simp) (fun V k _ hb => fit1_calls lo cv c k (w.heap.size + 1) V ((hc.below hb0).below hb) (below_cell hb y1)))
  have HW := Lib.hid hW
  obtain ⟨a, cc, rfl⟩ := strs_shape hc
  obtain ⟨a', cc', rfl⟩ := strs_shape hs
  unfold scV slV
  clear hc hs hW
  go_enter Tryz.func68, Tryz.ntmps68
  go_upto_region 1 with fail
  rw [← HW.out]
  clear HW
  go_wp2_with fail
  refine C.out.mono ?_
  rintro e w1 ⟨rfl, hb⟩
  clear C
  go_wp2_with fail
  go_ret
  exact ⟨rfl, below_step hb0 hb⟩
end Go.Proofs.YthlfjfmlmcoihaaGreat
