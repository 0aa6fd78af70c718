/- Pairs of strings in memory; slices.Equal at them. -/
import Derived.Test.YtfakhapljjbbnaaDoorFrb
import Derived.Test.YtfakhapljjbbnaaDoorLibb
import Derived.Test.YtfakhapljjbbnaaDoorBsk
import Derived.Laws.StructEq
namespace Go.Proofs.YtfakhapljjbbnaaDoor
open Go.RowKit

structure PrD where
  name : ByteArray
  value : ByteArray
def prRow (p : PrD) : List Value := [.string p.name, .string p.value]
def Prs (w : World) (lo : Nat) (v : Value) (ps : List PrD) : Prop := Rows w 51 lo 2 v (ps.map prRow)
theorem Prs.below {w w' : World} {lo : Nat} {v : Value} {rs : List PrD} (h : Prs w lo v rs) (hb : Below w.heap.size w w') : Prs w' lo v rs := Rows.below h hb
theorem prs_at {w : World} {lo : Nat} {v : Value} {ts : List PrD} (h : Prs w lo v ts) :
    (v = .slice none 0 0 ∧ ts = []) ∨ ∃ g off cap, v = .slice (some ⟨g, off, none⟩) ts.length cap ∧ lo ≤ g ∧ g < w.heap.size ∧ ts.length ≤ 1000000 ∧
      ∀ (i : Nat) (t : PrD), ts[i]? = some t → w.cell? ⟨g, off + i * 2, none⟩ = some (.string t.name) ∧ w.cell? ⟨g, off + i * 2 + 1, none⟩ = some (.string t.value) := by
  rcases rows_at h with ⟨e1, e2⟩ | ⟨g, off, cap, e1, e2, e3, hc⟩
  · exact .inl ⟨e1, by simpa using e2⟩
  · refine .inr ⟨g, off, cap, by simpa using e1, e2, e3, by simpa using h.small, fun i t ht => ?_⟩
    have hx : ∀ (j : Nat) (u : Value), (prRow t)[j]? = some u → w.cell? ⟨g, off + i * 2 + j, none⟩ = some u := fun j u hu => hc i j u (by simpa [ht] using hu)
    exact ⟨hx 0 _ rfl, hx 1 _ rfl⟩
theorem prs_shape {w : World} {lo : Nat} {v : Value} {ts : List PrD} (h : Prs w lo v ts) : ∃ a c, v = .slice a ts.length c := by
  rcases prs_at h with ⟨rfl, rfl⟩ | ⟨g, off, cap, rfl, _⟩
  · exact ⟨none, 0, rfl⟩
  · exact ⟨_, _, rfl⟩
theorem prs_of_owns {w : World} {base : Nat} {v : Value} {ts : List PrD} (h : w.ownsRow base 51 2 v ts.length (ts.map prRow).flatten) (hs : ts.length ≤ 1000000) : Prs w base v ts :=
  Rows.of_owns (by simpa using h) (by simpa using hs) (fun r hr => by obtain ⟨t, _, rfl⟩ := List.mem_map.1 hr; rfl)
/-- Are two pairs one? -/
def peq (a b : PrD) : Bool := beqS a.name b.name && beqS a.value b.value
theorem peq_iff {a b : PrD} : peq a b = true ↔ a = b := by
  unfold peq
  cases a; cases b
  simp only [Bool.and_eq_true, beqS_iff, PrD.mk.injEq]
instance : DecidableEq PrD := fun a b => decidable_of_iff (peq a b = true) peq_iff
theorem run_neqPr (a b : PrD) (w : World) : (binOp .neq 51 (.agg #[.string a.name, .string a.value]) (.agg #[.string b.name, .string b.value])).run Tryd.prog w = .ok (.bool (!peq a b)) w := by
  have u2 := Tryd.underlying9
  have hS : Tryd.prog.underlying 51 = some (.struct (Tryd.prog.fieldsOf 51)) := by kernel_rfl
  have hp : Tryd.prog.stoodInHeld 51 = false := by kernel_rfl
  rw [run_neq_struct, show (10000 : Nat) = 9999 + 1 from rfl, run_equalIn_agg w 9999 51 _ _ hS hp]
  simp only [Program.fieldsOf, Tryd.underlying51]
  go_simp
  unfold peq beqS
  cases h3 : a.name.toList == b.name.toList <;> cases h4 : a.value.toList == b.value.toList <;> simp_all
theorem eqGuardPr (x y : Operand) (xs ys : Array Value) (w : World) : (eqGuard .neq 51 x y (.agg xs) (.agg ys)).run Tryd.prog w = .ok () w := run_eqGuard_agg w .neq 51 x y xs ys (by kernel_rfl)
theorem below_drewNn {w w' : World} (h : Below w.heap.size w w') (n : Nat) : Below w.heap.size w (w'.drewN n) := ⟨h.os, h.tape, h.output, h.size, h.block⟩
set_option maxRecDepth 100000 in
set_option maxHeartbeats 4000000 in
theorem equalPr_calls (lo lo' : Nat) (v v' : Value) (xs ys : List PrD) (w : World) (hv : Prs w lo v xs) (hv' : Prs w lo' v' ys) (ha : xs.length ≤ 1000000) (hb : ys.length ≤ 1000000) :
    Calls Tryd.prog 18 #[v, v'] w (BoolIs (decide (xs = ys)) w) := by
  obtain ⟨xa, xc, rfl⟩ := prs_shape hv
  obtain ⟨ya, yc, rfl⟩ := prs_shape hv'
  by_cases hl : xs.length = ys.length
  · have HD := Lib.hid (show ∀ (i : Nat) (a b : PrD), xs[i]? = some a → ys[i]? = some b → peq a b = false → decide (xs = ys) = false from fun i a b h1 h2 h3 => by
      refine decide_eq_false fun e => ?_
      rw [e, h2] at h1
      cases h1
      rw [peq_iff.2 rfl] at h3; cases h3)
    have HT := Lib.hid (show (∀ (i : Nat) (a b : PrD), i < xs.length → xs[i]? = some a → ys[i]? = some b → peq a b = true) → decide (xs = ys) = true from fun h => by
      refine decide_eq_true (List.ext_getElem? fun i => ?_)
      by_cases hi : i < xs.length
      · rw [List.getElem?_eq_getElem hi, List.getElem?_eq_getElem (show i < ys.length by omega)]
        exact congrArg some (peq_iff.1 (h i _ _ hi (List.getElem?_eq_getElem hi) (List.getElem?_eq_getElem _)))
      · rw [List.getElem?_eq_none (by omega), List.getElem?_eq_none (by omega)])
    generalize decide (xs = ys) = R at HD HT ⊢
    have Hc : Hid (∀ (i : Nat) (a b : PrD), xs[i]? = some a → ys[i]? = some b → ∃ g off g' off', xa = some ⟨g, off, none⟩ ∧ ya = some ⟨g', off', none⟩ ∧
        (w.cell? ⟨g, off + i * 2, none⟩ = some (.string a.name) ∧ w.cell? ⟨g, off + i * 2 + 1, none⟩ = some (.string a.value)) ∧
        (w.cell? ⟨g', off' + i * 2, none⟩ = some (.string b.name) ∧ w.cell? ⟨g', off' + i * 2 + 1, none⟩ = some (.string b.value))) := Lib.hid fun i a b h1 h2 => by
      rcases prs_at hv with ⟨_, rfl⟩ | ⟨g, off, cap, e1, _, _, _, hc⟩
      · simp at h1
      · rcases prs_at hv' with ⟨_, rfl⟩ | ⟨g', off', cap', e2, _, _, _, hc'⟩
        · simp at h2
        · simp only [Value.slice.injEq] at e1 e2
          exact ⟨g, off, g', off', e1.1, e2.1, hc i a h1, hc' i b h2⟩
    obtain ⟨n, hn⟩ : ∃ n, xs.length = n := ⟨_, rfl⟩
    have hn' : ys.length = n := by omega
    have HN := Lib.hid hn
    have HN' := Lib.hid hn'
    rw [hn, hn']
    rw [hn] at ha
    clear hv hv' hl hn hn' hb
    have e1 : ((n : Int) != (n : Int)) = false := by simp
    go_enter Tryd.func18, Tryd.ntmps18
    go_wp2_with fail
    go_loopw [13] (fun i wr => ∃ k : Nat, k ≤ n ∧ i = .int .i64 k ∧ Hid (∀ (i : Nat) (a b : PrD), i < k → xs[i]? = some a → ys[i]? = some b → peq a b = true) ∧ Below w.heap.size w wr) (fun i _ => n - (intOf i).toNat)
    case atStart => exact ⟨0, Nat.zero_le _, rfl, Lib.hid fun i _ _ h => by omega, Below.refl _ _⟩
    case round =>
      obtain ⟨k, hk, rfl, H0, hb⟩ := hrel
      by_cases hlt : k < n
      · obtain ⟨a, hai⟩ : ∃ a, xs[k]? = some a := ⟨_, List.getElem?_eq_getElem (show k < xs.length by have := HN.out; omega)⟩
        obtain ⟨b, hbi⟩ : ∃ b, ys[k]? = some b := ⟨_, List.getElem?_eq_getElem (show k < ys.length by have := HN'.out; omega)⟩
        obtain ⟨g, off, g', off', rfl, rfl, ⟨p0, p1⟩, q0, q1⟩ := Hc.out k a b hai hbi
        have a0 := below_cell hb p0
        have a1 := below_cell hb p1
        have b0 := below_cell hb q0
        have b1 := below_cell hb q1
        have w3 : (k : Int) < (n : Int) := by omega
        have hne := run_neqPr a b
        have hgd := eqGuardPr
        have Ha := Lib.hid hai
        have Hb := Lib.hid hbi
        clear hai hbi p0 p1 q0 q1
        cases hf : peq a b
        · rw [hf] at hne
          have Hf := Lib.hid hf
          clear hf
          go_wp2_with fail
          go_quiet (fail)
          go_wp2_with fail
          go_ret
          exact ⟨ret_bool (HD.out k a b Ha.out Hb.out Hf.out).symm, below_drewNn hb _⟩
        · rw [hf] at hne
          have H1 : Hid (∀ (i : Nat) (a b : PrD), i < k + 1 → xs[i]? = some a → ys[i]? = some b → peq a b = true) := Lib.hid fun i x y hi hx hy => by
            rcases Nat.lt_succ_iff_lt_or_eq.1 hi with h | rfl
            · exact H0.out i x y h hx hy
            · rw [Ha.out] at hx; rw [Hb.out] at hy; cases hx; cases hy; exact hf
          clear hf
          go_wp2_with fail
          go_quiet (fail)
          go_wp2_with fail
          go_roundw
          case rel => exact ⟨k + 1, by omega, by go_num, H1, below_drewNn hb _⟩
          case measure => simp [intOf]; omega
      · obtain rfl : k = n := by omega
        go_wp2_with fail
        go_ret
        exact ⟨ret_bool (HT.out fun i a b hi => H0.out i a b (by rw [← HN.out]; exact hi)).symm, hb⟩
  · have HR := Lib.hid (show decide (xs = ys) = false from decide_eq_false fun e => hl (by rw [e]))
    have e1 : ((xs.length : Int) != (ys.length : Int)) = true := by simp; omega
    have hl' : ¬ xs.length = ys.length := hl
    clear hv hv' hl
    go_enter Tryd.func18, Tryd.ntmps18
    go_wp2_with fail
    go_ret
    exact ⟨ret_bool HR.out.symm, Below.refl _ _⟩
end Go.Proofs.YtfakhapljjbbnaaDoor
