/- The one example. -/
import Derived.Test.YthlfjfmlmcoihaaGreatMgam
import Derived.Test.YthlfjfmlmcoihaaGreatMgab
import Derived.Test.YthlfjfmlmcoihaaGreatMgah
import Derived.Test.YthlfjfmlmcoihaaGreatMgad
import Derived.Laws.StructEq
import Derived.Test.YthlfjfmlmcoihaaGreatMgak
import Derived.Test.YthlfjfmlmcoihaaGreatMgae
import Derived.Laws.ResultCell
/- slices.DeleteFunc at strings with any predicate. -/
namespace Go.Proofs.YthlfjfmlmcoihaaGreat
open Go.RowKit

theorem zero_str (w : World) : (zeroValue 9).run Tryz.prog w = .ok (.string ⟨#[]⟩) w := by kernel_rfl
theorem filter_take_firstS {α : Type} {p : α → Bool} {fs : List α} {i : Nat} {f : α} (hf : fs[i]? = some f) (hpf : p f = true) (h0 : ∀ j g, j < i → fs[j]? = some g → p g = false) : (fs.take (i + 1)).filter (fun g => !p g) = fs.take i := by
  have hi := (List.getElem?_eq_some_iff.1 hf).1
  have e : fs.take (i + 1) = fs.take i ++ [f] := by
    rw [List.take_succ_eq_append_getElem hi, (List.getElem?_eq_some_iff.1 hf).2]
  rw [e, List.filter_append]
  simp only [List.filter_cons, hpf, Bool.not_true, Bool.false_eq_true, if_false, List.filter_nil, List.append_nil]
  rw [List.filter_eq_self]
  intro g hg
  obtain ⟨j, hj⟩ := List.getElem?_of_mem hg
  rw [List.getElem?_take] at hj
  split at hj
  · rename_i hji
    rw [h0 j g hji hj]; rfl
  · cases hj
theorem filter_snocS {α : Type} (p : α → Bool) {l : List α} {k : Nat} {x : α} (hk : l[k]? = some x) : (l.take (k + 1)).filter p = (l.take k).filter p ++ (if p x then [x] else []) := by
  have hlt : k < l.length := (List.getElem?_eq_some_iff.1 hk).1
  have e : l.take (k + 1) = l.take k ++ [x] := by
    rw [List.take_succ_eq_append_getElem hlt, (List.getElem?_eq_some_iff.1 hk).2]
  rw [e, List.filter_append]
  cases hp : p x <;> simp [hp]
abbrev sRow (k : ByteArray) : List Value := [.string k]
theorem s_cell {w : World} {g off i : Nat} {ks : List ByteArray} {k : ByteArray} (h : RowsAt w 9 g off 1 (ks.map sRow)) (hk : ks[i]? = some k) : w.cell? ⟨g, off + i, none⟩ = some (.string k) := by
  have hr : (ks.map sRow)[i]? = some (sRow k) := by simp [hk]
  have := h.cell hr (j := 0) rfl
  simpa using this
theorem s_set {w : World} {g off i : Nat} {ks : List ByteArray} {k0 : ByteArray} (h : RowsAt w 9 g off 1 (ks.map sRow)) (hk : ks[i]? = some k0) (k : ByteArray) : RowsAt (w.setCell ⟨g, off + i, none⟩ (.string k)) 9 g off 1 ((ks.set i k).map sRow) := by
  have := h.set (i := i) (f := 0) (row := sRow k0) (by simp [hk]) (by decide) (.string k)
  rw [List.map_set]
  simpa using this
/-- What striking some out leaves. -/
def LeftS (p : ByteArray → Bool) (lo : Nat) (ks : List ByteArray) (w : World) (row : Option Nat) (e : Ending) (w' : World) : Prop := ∃ v', e = .returned v' ∧ Strs w' lo v' (ks.filter fun k => !p k) ∧ w.grownBy w' row
set_option maxRecDepth 100000 in
set_option maxHeartbeats 4000000 in
theorem deleteS_calls (G : Nat) (caps : Array Value) (p : ByteArray → Bool) (lo g off cap : Nat) (ks : List ByteArray) (w : World) (hv : RowsAt w 9 g off 1 (ks.map sRow)) (hn : ks.length ≤ 1000000) (hcap : ks.length ≤ cap) (hl : lo ≤ g) (eg : ∀ args w, (callFunc G args).run Tryz.prog w = .ok (.enter G args) w)
    (hp : ∀ (W : World) (k : ByteArray), k ∈ ks → w.grownBy W (some g) → Calls Tryz.prog G (#[.string k] ++ caps) W (BoolIs (p k) W)) :
    Calls Tryz.prog 38 #[.slice (some ⟨g, off, none⟩) ks.length cap, .func (.func G) #[] caps] w (LeftS p lo ks w (some g)) := by
  have HF := Lib.hid (show ∀ (ks' : List ByteArray) (w' : World) (c : Nat), RowsAt w' 9 g off 1 (ks'.map sRow) → ks'.length ≤ 1000000 → ks'.length ≤ c → Strs w' lo (.slice (some ⟨g, off, none⟩) ks'.length c) ks' from fun ks' w' c h hn hc => by
    have := h.rows (cap := c) (by simpa using hn) hl (by simpa using hc)
    simpa [Strs] using this)
  have Hp := Lib.hid hp
  have C := Lib.hid (indexSF_calls G caps p lo _ ks w (HF.out ks w cap hv hn hcap) eg fun W f hm hb => Hp.out W f hm (gb_below hb _))
  clear hp
  obtain ⟨n, hnn⟩ : ∃ n, ks.length = n := ⟨_, rfl⟩
  have HN := Lib.hid hnn
  rw [hnn] at hn hcap C ⊢
  clear hnn
  go_enter Tryz.func38, Tryz.ntmps38
  go_wp2_with fail
  refine C.out.mono ?_
  rintro e w1 ⟨he, hb1⟩
  rcases he with ⟨rfl, hnone⟩ | ⟨i, f0, rfl, hf0, hpf0, h0⟩
  · have Hall := Lib.hid (show (ks.filter fun f => !p f) = ks from List.filter_eq_self.2 fun f hf => by rw [hnone f hf]; rfl)
    clear hnone C
    go_wp2_with fail
    go_ret
    refine ⟨_, rfl, ?_, gb_below hb1 _⟩
    rw [Hall.out, ← HN.out]
    exact HF.out ks w1 cap (hv.below hb1) (by have := HN.out; omega) (by have := HN.out; omega)
  · have hi : i < n := by rw [← HN.out]; exact (List.getElem?_eq_some_iff.1 hf0).1
    have Hstart := Lib.hid (filter_take_firstS hf0 hpf0 h0)
    have hne : ((i : Int) == -1) = false := by rw [beq_eq_false_iff_ne]; omega
    have hv1 := hv.below hb1
    clear hf0 hpf0 h0 C hv
    go_wp2_with fail
    go_loopw [5, 6] (fun a b wr => ∃ (i j : Nat) (fs' : List ByteArray), i < j ∧ j ≤ n ∧ a = .int .i64 i ∧ b = .int .i64 j ∧ fs'.length = n ∧ RowsAt wr 9 g off 1 (fs'.map sRow) ∧ w.grownBy wr (some g) ∧ Hid (fs'.take i = (ks.take j).filter (fun f => !p f)) ∧ Hid (∀ t, j ≤ t → fs'[t]? = ks[t]?)) (fun _ b _ => n - (intOf b).toNat)
    case atStart => exact ⟨i, i + 1, ks, by omega, by omega, rfl, by go_num, HN.out, hv1, gb_below hb1 _, Lib.hid Hstart.out.symm, Lib.hid fun _ _ => rfl⟩
    case round =>
      clear hv1
      obtain ⟨i, j, fs', hij, hj, rfl, rfl, hlen, hr, hgw, HT, HE⟩ := hrel
      by_cases hlt : j < n
      · obtain ⟨f, hf⟩ : ∃ f, fs'[j]? = some f := ⟨_, List.getElem?_eq_getElem (show j < fs'.length by omega)⟩
        obtain ⟨fi, hfi⟩ : ∃ f, fs'[i]? = some f := ⟨_, List.getElem?_eq_getElem (show i < fs'.length by omega)⟩
        have hf' : ks[j]? = some f := by rw [← HE.out j (Nat.le_refl _)]; exact hf
        have Hsn := Lib.hid (filter_snocS (fun f => !p f) hf')
        have Hm := Lib.hid (List.mem_of_getElem? hf')
        have Hfi := Lib.hid hfi
        have a0 := s_cell hr hf
        clear hf hf' hfi
        go_wp2_with fail
        refine (Hp.out _ f Hm.out hgw).mono ?_
        rintro e w2 ⟨rfl, hb2⟩
        have hr2 := hr.below hb2
        have hgW2 := gb_trans hgw (gb_below hb2 (some g))
        cases hpf : p f
        · have p0 := s_cell hr2 Hfi.out
          have f0 := fun o => hr2.free o
          have HT' : Hid ((fs'.set i f).take (i + 1) = (ks.take (j + 1)).filter (fun f => !p f)) := Lib.hid (by
            have hil : i < fs'.length := by omega
            rw [Hsn.out, hpf, ← HT.out, List.take_succ_eq_append_getElem (by simpa using hil)]
            simp [List.take_set_of_le])
          have HE' : Hid (∀ t, j + 1 ≤ t → (fs'.set i f)[t]? = ks[t]?) := Lib.hid fun t ht => by
            rw [List.getElem?_set_ne (by omega)]; exact HE.out t (by omega)
          have hset := Lib.hid (s_set hr2 Hfi.out f)
          have hgs := Lib.hid (gb_trans hgW2 (gb_setCell w2 g (off + i) (.string f)))
          have hw4 : (i : Int) < (n : Int) := by omega
          clear hpf a0 hb2 hgW2 hgw hr hr2
          go_wp2_with fail
          go_roundw
          case rel => exact ⟨i + 1, j + 1, fs'.set i f, by omega, by omega, by go_num, by go_num, by simpa using hlen, hset.out, hgs.out, HT', HE'⟩
          case measure => simp [intOf]; omega
        · have HT' : Hid (fs'.take i = (ks.take (j + 1)).filter (fun f => !p f)) := Lib.hid (by rw [Hsn.out, hpf, ← HT.out]; simp)
          have HE' : Hid (∀ t, j + 1 ≤ t → fs'[t]? = ks[t]?) := Lib.hid fun t ht => HE.out t (by omega)
          clear hpf
          go_wp2_with fail
          go_roundw
          case rel => exact ⟨i, j + 1, fs', by omega, by omega, rfl, by go_num, hlen, hr2, hgW2, HT', HE'⟩
          case measure => simp [intOf]; omega
      · obtain rfl : j = n := by omega
        have Hfin := Lib.hid (show fs'.take i = ks.filter (fun f => !p f) by rw [HT.out, ← HN.out, List.take_length])
        obtain ⟨w4, hrun, hr4, hg4⟩ := run_clear_rows (P := Tryz.prog) (t := 39) (ty := 0) (sz := 1) (i := i) (n := j - i) (cap := cap - i) Tryz.underlying39 zero_str rfl (by simp [Value.cells, Value.oneCell']) hr (by simp; omega) (by decide)
        have Hr4 := Lib.hid hr4
        have Hg4 := Lib.hid hg4
        simp only [Nat.mul_one] at hrun
        clear hr4 hg4 hr
        go_wp2_with fail
        go_ret
        refine ⟨_, rfl, ?_, gb_trans hgw Hg4.out⟩
        have h5 := Hr4.out
        rw [← List.map_take] at h5
        have h6 := HF.out (fs'.take i) _ cap h5 (by simp; omega) (by simp; omega)
        have e : (fs'.take i).length = i := by simp; omega
        rw [e, Hfin.out] at h6
        exact h6
set_option maxRecDepth 100000 in
set_option maxHeartbeats 1000000 in
theorem deleteS0_calls (G : Nat) (caps : Array Value) (w : World) (eg : ∀ args w, (callFunc G args).run Tryz.prog w = .ok (.enter G args) w) :
    Calls Tryz.prog 38 #[.slice none 0 0, .func (.func G) #[] caps] w fun e w' => e = .returned (.slice none 0 0) ∧ Below w.heap.size w w' := by
  have C := Lib.hid (indexSF_calls G caps (fun _ => true) 0 (.slice none 0 0) [] w ⟨by simp, by simp, .inl ⟨rfl, rfl⟩⟩ eg (fun W k h => by simp at h))
  go_enter Tryz.func38, Tryz.ntmps38
  go_wp2_with fail
  refine C.out.mono ?_
  rintro e w1 ⟨he, hb1⟩
  rcases he with ⟨rfl, _⟩ | ⟨i, f0, rfl, hf0, _⟩
  · go_wp2_with fail
    go_ret
    exact ⟨rfl, hb1⟩
  · simp at hf0


end Go.Proofs.YthlfjfmlmcoihaaGreat
/- slices.Equal at fills. -/
namespace Go.Proofs.YthlfjfmlmcoihaaGreat
open Go.RowKit

/-- Are two fills one? -/
def fieq (a b : FiD) : Bool := beqS a.slot b.slot && beqS a.who b.who
theorem fieq_iff {a b : FiD} : fieq a b = true ↔ a = b := by
  unfold fieq
  cases a; cases b
  simp only [Bool.and_eq_true, beqS_iff, FiD.mk.injEq]
instance : DecidableEq FiD := fun a b => decidable_of_iff (fieq a b = true) fieq_iff
theorem run_neqFi (a b : FiD) (w : World) : (binOp .neq 49 (.agg #[.string a.slot, .string a.who]) (.agg #[.string b.slot, .string b.who])).run Tryz.prog w = .ok (.bool (!fieq a b)) w := by
  have u2 := Tryz.underlying9
  have hS : Tryz.prog.underlying 49 = some (.struct (Tryz.prog.fieldsOf 49)) := by kernel_rfl
  have hp : Tryz.prog.stoodInHeld 49 = false := by kernel_rfl
  rw [run_neq_struct, show (10000 : Nat) = 9999 + 1 from rfl, run_equalIn_agg w 9999 49 _ _ hS hp]
  simp only [Program.fieldsOf, Tryz.underlying49]
  go_simp
  unfold fieq beqS
  cases h3 : a.slot.toList == b.slot.toList <;> cases h4 : a.who.toList == b.who.toList <;> simp_all
theorem eqGuardFi (x y : Operand) (xs ys : Array Value) (w : World) : (eqGuard .neq 49 x y (.agg xs) (.agg ys)).run Tryz.prog w = .ok () w := run_eqGuard_agg w .neq 49 x y xs ys (by kernel_rfl)
theorem below_drewNf {w w' : World} (h : Below w.heap.size w w') (n : Nat) : Below w.heap.size w (w'.drewN n) := ⟨h.os, h.tape, h.output, h.size, h.block⟩
set_option maxRecDepth 100000 in
set_option maxHeartbeats 4000000 in
theorem equalFi_calls (lo lo' : Nat) (v v' : Value) (xs ys : List FiD) (w : World) (hv : Fis w lo v xs) (hv' : Fis w lo' v' ys) (ha : xs.length ≤ 1000000) (hb : ys.length ≤ 1000000) :
    Calls Tryz.prog 35 #[v, v'] w (BoolIs (decide (xs = ys)) w) := by
  obtain ⟨xa, xc, rfl⟩ := fis_shape hv
  obtain ⟨ya, yc, rfl⟩ := fis_shape hv'
  by_cases hl : xs.length = ys.length
  · have HD := Lib.hid (show ∀ (i : Nat) (a b : FiD), xs[i]? = some a → ys[i]? = some b → fieq a b = false → decide (xs = ys) = false from fun i a b h1 h2 h3 => by
      refine decide_eq_false fun e => ?_
      rw [e, h2] at h1
      cases h1
      rw [fieq_iff.2 rfl] at h3; cases h3)
    have HT := Lib.hid (show (∀ (i : Nat) (a b : FiD), i < xs.length → xs[i]? = some a → ys[i]? = some b → fieq a b = true) → decide (xs = ys) = true from fun h => by
      refine decide_eq_true (List.ext_getElem? fun i => ?_)
      by_cases hi : i < xs.length
      · rw [List.getElem?_eq_getElem hi, List.getElem?_eq_getElem (show i < ys.length by omega)]
        exact congrArg some (fieq_iff.1 (h i _ _ hi (List.getElem?_eq_getElem hi) (List.getElem?_eq_getElem _)))
      · rw [List.getElem?_eq_none (by omega), List.getElem?_eq_none (by omega)])
    generalize decide (xs = ys) = R at HD HT ⊢
    have Hc : Hid (∀ (i : Nat) (a b : FiD), xs[i]? = some a → ys[i]? = some b → ∃ g off g' off', xa = some ⟨g, off, none⟩ ∧ ya = some ⟨g', off', none⟩ ∧
        (w.cell? ⟨g, off + i * 2, none⟩ = some (.string a.slot) ∧ w.cell? ⟨g, off + i * 2 + 1, none⟩ = some (.string a.who)) ∧
        (w.cell? ⟨g', off' + i * 2, none⟩ = some (.string b.slot) ∧ w.cell? ⟨g', off' + i * 2 + 1, none⟩ = some (.string b.who))) := Lib.hid fun i a b h1 h2 => by
      rcases fis_at hv with ⟨_, rfl⟩ | ⟨g, off, cap, e1, _, _, _, hc⟩
      · simp at h1
      · rcases fis_at hv' with ⟨_, rfl⟩ | ⟨g', off', cap', e2, _, _, _, hc'⟩
        · simp at h2
        · simp only [Value.slice.injEq] at e1 e2
          exact ⟨g, off, g', off', e1.1, e2.1, hc i a h1, hc' i b h2⟩
    obtain ⟨n, hn⟩ : ∃ n, xs.length = n := ⟨_, rfl⟩
    have hn' : ys.length = n := by omega
    have HN := Lib.hid hn
    have HN' := Lib.hid hn'
    rw [hn, hn']
    rw [hn] at ha
    clear hv hv' hl hn hn' hb
    have e1 : ((n : Int) != (n : Int)) = false := by simp
    go_enter Tryz.func35, Tryz.ntmps35
    go_wp2_with fail
    go_loopw [13] (fun i wr => ∃ k : Nat, k ≤ n ∧ i = .int .i64 k ∧ Hid (∀ (i : Nat) (a b : FiD), i < k → xs[i]? = some a → ys[i]? = some b → fieq a b = true) ∧ Below w.heap.size w wr) (fun i _ => n - (intOf i).toNat)
    case atStart => exact ⟨0, Nat.zero_le _, rfl, Lib.hid fun i _ _ h => by omega, Below.refl _ _⟩
    case round =>
      obtain ⟨k, hk, rfl, H0, hb⟩ := hrel
      by_cases hlt : k < n
      · obtain ⟨a, hai⟩ : ∃ a, xs[k]? = some a := ⟨_, List.getElem?_eq_getElem (show k < xs.length by have := HN.out; omega)⟩
        obtain ⟨b, hbi⟩ : ∃ b, ys[k]? = some b := ⟨_, List.getElem?_eq_getElem (show k < ys.length by have := HN'.out; omega)⟩
        obtain ⟨g, off, g', off', rfl, rfl, ⟨p0, p1⟩, q0, q1⟩ := Hc.out k a b hai hbi
        have a0 := below_cell hb p0
        have a1 := below_cell hb p1
        have b0 := below_cell hb q0
        have b1 := below_cell hb q1
        have w3 : (k : Int) < (n : Int) := by omega
        have hne := run_neqFi a b
        have hgd := eqGuardFi
        have Ha := Lib.hid hai
        have Hb := Lib.hid hbi
        clear hai hbi p0 p1 q0 q1
        cases hf : fieq a b
        · rw [hf] at hne
          have Hf := Lib.hid hf
          clear hf
          go_wp2_with fail
          go_quiet (fail)
          go_wp2_with fail
          go_ret
          exact ⟨ret_bool (HD.out k a b Ha.out Hb.out Hf.out).symm, below_drewNf hb _⟩
        · rw [hf] at hne
          have H1 : Hid (∀ (i : Nat) (a b : FiD), i < k + 1 → xs[i]? = some a → ys[i]? = some b → fieq a b = true) := Lib.hid fun i x y hi hx hy => by
            rcases Nat.lt_succ_iff_lt_or_eq.1 hi with h | rfl
            · exact H0.out i x y h hx hy
            · rw [Ha.out] at hx; rw [Hb.out] at hy; cases hx; cases hy; exact hf
          clear hf
          go_wp2_with fail
          go_quiet (fail)
          go_wp2_with fail
          go_roundw
          case rel => exact ⟨k + 1, by omega, by go_num, H1, below_drewNf hb _⟩
          case measure => simp [intOf]; omega
      · obtain rfl : k = n := by omega
        go_wp2_with fail
        go_ret
        exact ⟨ret_bool (HT.out fun i a b hi => H0.out i a b (by rw [← HN.out]; exact hi)).symm, hb⟩
  · have HR := Lib.hid (show decide (xs = ys) = false from decide_eq_false fun e => hl (by rw [e]))
    have e1 : ((xs.length : Int) != (ys.length : Int)) = true := by simp; omega
    have hl' : ¬ xs.length = ys.length := hl
    clear hv hv' hl
    go_enter Tryz.func35, Tryz.ntmps35
    go_wp2_with fail
    go_ret
    exact ⟨ret_bool HR.out.symm, Below.refl _ _⟩
end Go.Proofs.YthlfjfmlmcoihaaGreat
/- Points and Total. -/
namespace Go.Proofs.YthlfjfmlmcoihaaGreat
open Go.RowKit

/-- What Points answers: the points in hundredths, and what is wrong. -/
def ptsE (rs : List RD) (ks : List ByteArray) (l : LD) : Int := firstE [wrE rs ks, lnE l]
def ptsF (rs : List RD) (ks : List ByteArray) (l : LD) : Int × Int := if ptsE rs ks l = 0 then lowF (ptsI rs ks l.stats) 100 else (0, 0)
def TwoIs (f : Int × Int) (x : Int) (w : World) (e : Ending) (w' : World) : Prop := e = .returned (.tuple #[frV f, .int .i64 x]) ∧ Below w.heap.size w w'
def ops_85_1 : Array Go.Oper := #[
  { dst := some 9, op := Go.Op.move (Go.Operand.tmp 0), type := 120, pos := "score.go:45", after := #[], guard := none },
  { dst := some 10, op := Go.Op.move (Go.Operand.tmp 1), type := 39, pos := "score.go:45", after := #[], guard := none },
  { dst := some 11, op := Go.Op.call { callee := Go.Callee.value (Go.Operand.func 129), args := #[Go.Operand.tmp 9, Go.Operand.tmp 10], argTypes := #[120, 39] }, type := 35, pos := "score.go:45", after := #[{ on := 0, ground := Go.Ground.data }, { on := 1, ground := Go.Ground.data }], guard := none },
  { dst := some 12, op := Go.Op.load 125 (Go.Operand.tmp 5), type := 125, pos := "score.go:45", after := #[], guard := none },
  { dst := some 13, op := Go.Op.call { callee := Go.Callee.value (Go.Operand.func 130), args := #[Go.Operand.tmp 12], argTypes := #[125] }, type := 35, pos := "score.go:45", after := #[{ on := 3, ground := Go.Ground.data }, { on := 2, ground := Go.Ground.chain }], guard := none },
  { dst := some 14, op := Go.Op.buildSlice 95 2 #[(0, Go.Operand.tmp 11), (1, Go.Operand.tmp 13)], type := 95, pos := "score.go:45", after := #[{ on := 2, ground := Go.Ground.data }, { on := 4, ground := Go.Ground.data }], guard := none },
  { dst := some 15, op := Go.Op.call { callee := Go.Callee.value (Go.Operand.func 53), args := #[Go.Operand.tmp 14], argTypes := #[95] }, type := 35, pos := "score.go:45", after := #[{ on := 5, ground := Go.Ground.data }, { on := 4, ground := Go.Ground.chain }], guard := none },
  { dst := some 8, op := Go.Op.assign (Go.Operand.tmp 15), type := 35, pos := "score.go:45", after := #[{ on := 6, ground := Go.Ground.data }, { on := 6, ground := Go.Ground.chain }, { on := 0, ground := Go.Ground.phase }, { on := 1, ground := Go.Ground.phase }, { on := 2, ground := Go.Ground.phase }, { on := 3, ground := Go.Ground.phase }, { on := 4, ground := Go.Ground.phase }, { on := 5, ground := Go.Ground.phase }, { on := 6, ground := Go.Ground.phase }], guard := none }]
theorem ops_85_1_0 : ops_85_1[0]? = some ({ dst := some 9, op := Go.Op.move (Go.Operand.tmp 0), type := 120, pos := "score.go:45", after := #[], guard := none } : Go.Oper) := rfl
theorem ops_85_1_1 : ops_85_1[1]? = some ({ dst := some 10, op := Go.Op.move (Go.Operand.tmp 1), type := 39, pos := "score.go:45", after := #[], guard := none } : Go.Oper) := rfl
theorem ops_85_1_2 : ops_85_1[2]? = some ({ dst := some 11, op := Go.Op.call { callee := Go.Callee.value (Go.Operand.func 129), args := #[Go.Operand.tmp 9, Go.Operand.tmp 10], argTypes := #[120, 39] }, type := 35, pos := "score.go:45", after := #[{ on := 0, ground := Go.Ground.data }, { on := 1, ground := Go.Ground.data }], guard := none } : Go.Oper) := rfl
theorem ops_85_1_3 : ops_85_1[3]? = some ({ dst := some 12, op := Go.Op.load 125 (Go.Operand.tmp 5), type := 125, pos := "score.go:45", after := #[], guard := none } : Go.Oper) := rfl
theorem ops_85_1_4 : ops_85_1[4]? = some ({ dst := some 13, op := Go.Op.call { callee := Go.Callee.value (Go.Operand.func 130), args := #[Go.Operand.tmp 12], argTypes := #[125] }, type := 35, pos := "score.go:45", after := #[{ on := 3, ground := Go.Ground.data }, { on := 2, ground := Go.Ground.chain }], guard := none } : Go.Oper) := rfl
theorem ops_85_1_5 : ops_85_1[5]? = some ({ dst := some 14, op := Go.Op.buildSlice 95 2 #[(0, Go.Operand.tmp 11), (1, Go.Operand.tmp 13)], type := 95, pos := "score.go:45", after := #[{ on := 2, ground := Go.Ground.data }, { on := 4, ground := Go.Ground.data }], guard := none } : Go.Oper) := rfl
theorem ops_85_1_6 : ops_85_1[6]? = some ({ dst := some 15, op := Go.Op.call { callee := Go.Callee.value (Go.Operand.func 53), args := #[Go.Operand.tmp 14], argTypes := #[95] }, type := 35, pos := "score.go:45", after := #[{ on := 5, ground := Go.Ground.data }, { on := 4, ground := Go.Ground.chain }], guard := none } : Go.Oper) := rfl
theorem ops_85_1_7 : ops_85_1[7]? = some ({ dst := some 8, op := Go.Op.assign (Go.Operand.tmp 15), type := 35, pos := "score.go:45", after := #[{ on := 6, ground := Go.Ground.data }, { on := 6, ground := Go.Ground.chain }, { on := 0, ground := Go.Ground.phase }, { on := 1, ground := Go.Ground.phase }, { on := 2, ground := Go.Ground.phase }, { on := 3, ground := Go.Ground.phase }, { on := 4, ground := Go.Ground.phase }, { on := 5, ground := Go.Ground.phase }, { on := 6, ground := Go.Ground.phase }], guard := none } : Go.Oper) := rfl
theorem ops_85_1_ns : Go.Region.noSelect ops_85_1 = true := by kernel_rfl
set_option maxRecDepth 100000 in
set_option maxHeartbeats 4000000 in
theorem points2_calls (lo lo' lo3 : Nat) (v kv x : Value) (rs : List RD) (ks : List ByteArray) (l : LD) (w : World) (hR : Rls w lo v rs) (hs : ∀ r ∈ rs, SmallR r) (hn : rs.length ≤ 1000) (hK : Strs w lo' kv ks) (hk : ∀ k ∈ ks, k.size ≤ 1000) (hkn : ks.length ≤ 1000000) (hT : Tds w lo3 x l.stats) (hl : SmallL l) :
    Calls Tryz.prog 85 #[v, kv, lnV l x] w (TwoIs (ptsF rs ks l) (ptsE rs ks l) w) := by
  obtain ⟨ra, rc, rfl⟩ := rls_shape hR
  obtain ⟨ka, kc, rfl⟩ := strs_shape hK
  obtain ⟨xa, xc, rfl⟩ := tds_shape hT
  obtain ⟨W, hW⟩ : ∃ W, W = (w.alloc (.cells #[.string l.player, .int .i64 l.week, .slice xa l.stats.length xc] 125)).alloc (.cells #[.int .i64 0, .int .i64 0] 34) := ⟨_, rfl⟩
  have hwW : Below w.heap.size w W := by rw [hW]; exact (below_alloc w _).trans ((below_alloc _ _).mono (by simp))
  have hx : W.heap[w.heap.size]? = some (.cells #[.string l.player, .int .i64 l.week, .slice xa l.stats.length xc] 125 (0, 0)) := by rw [hW]; exact heap_al (heap_alloc_new w _) _
  have hf : W.heap[w.heap.size + 1]? = some (.cells #[.int .i64 0, .int .i64 0] 34 (0, 0)) := by
    rw [hW]; have := heap_alloc_new (w.alloc (.cells #[.string l.player, .int .i64 l.week, .slice xa l.stats.length xc] 125)) (.cells #[.int .i64 0, .int .i64 0] 34); rwa [World.size_alloc] at this
  have x0 := cell_at hx 0 rfl
  have x1 := cell_at hx 1 rfl
  have x2 := cell_at hx 2 rfl
  have hb0 := (Below.refl W.heap.size W).drew
  have HS := Lib.hid (show ∀ w', Below W.heap.size W w' → (Below W.heap.size W w' ∧ w'.cell? ⟨w.heap.size, 0, none⟩ = some (.string l.player) ∧ w'.cell? ⟨w.heap.size, 1, none⟩ = some (.int .i64 l.week) ∧ w'.cell? ⟨w.heap.size, 2, none⟩ = some (.slice xa l.stats.length xc)) from fun w' hb => ⟨hb, below_cell hb x0, below_cell hb x1, below_cell hb x2⟩)
  have C1 := Lib.hid (fun w' (hb : Below W.heap.size W w') => wrongRules_calls lo lo' _ _ rs ks w' (hR.below (below_step hwW hb)) hs (by omega) (hK.below (below_step hwW hb)) hk hkn)
  have C2 := Lib.hid (fun w' (hb : Below W.heap.size W w') => checkLine_calls lo3 l _ w' (hT.below (below_step hwW hb)) hl)
  have C3 := Lib.hid (fun (h : ptsE rs ks l = 0) w' (hb : Below W.heap.size W w') => points_calls lo lo' lo3 _ _ _ rs ks l w' (hR.below (below_step hwW hb)) hs hn (fit_of (firstE_all0 (firstE_all0 h (wrE rs ks) (by simp)) (chkRl rs) (by simp)) (firstE_all0 h (lnE l) (by simp))) (hK.below (below_step hwW hb)) (hT.below (below_step hwW hb)))
  have HP := Lib.hid (fun (h : ptsE rs ks l = 0) => pts_bound (ks := ks) (fit_of (firstE_all0 (firstE_all0 h (wrE rs ks) (by simp)) (chkRl rs) (by simp)) (firstE_all0 h (lnE l) (by simp))) (rules_ok (firstE_all0 (firstE_all0 h (wrE rs ks) (by simp)) (chkRl rs) (by simp))).1)
  have HF0 := Lib.hid (fun (h : ptsE rs ks l ≠ 0) => (show ptsF rs ks l = (0, 0) by unfold ptsF; rw [if_neg h]))
  have HF1 := Lib.hid (fun (h : ptsE rs ks l = 0) => (show ptsF rs ks l = lowF (ptsI rs ks l.stats) 100 by unfold ptsF; rw [if_pos h]))
  have HE := Lib.hid (show firstE [wrE rs ks, lnE l] = ptsE rs ks l from rfl)
  have Hf := Lib.hid hf
  have HwW := Lib.hid hwW
  clear hR hs hn hK hk hkn hT hl hx x0 x1 x2 hf
  generalize wrE rs ks = E1 at C1 HE
  unfold lnV at C2 C3 ⊢
  generalize lnE l = E2 at C2 HE
  generalize ptsE rs ks l = E at C3 HP HF0 HF1 HE ⊢
  generalize ptsF rs ks l = R at HF0 HF1 ⊢
  go_enter Tryz.func85, Tryz.ntmps85
  go_upto_region 1 with fail
  rw [← hW]
  clear hW
  show Code.wp _ (Code.region 1 ops_85_1 true) _ _ _
  refine region_start 8 (fun w' => Below W.heap.size W w' ∧ w'.cell? ⟨w.heap.size, 0, none⟩ = some (.string l.player) ∧ w'.cell? ⟨w.heap.size, 1, none⟩ = some (.int .i64 l.week) ∧ w'.cell? ⟨w.heap.size, 2, none⟩ = some (.slice xa l.stats.length xc)) (by kernel_rfl) rfl ?_ (fun hHeld => ?_)
  · (exact HS.out _ (by first | assumption | exact hHeld.1 | exact below_step hHeld.1 (by assumption) | exact below_step hHeld.1 (below_alloc _ _)))
  refine take_to 0 9 #[true, false, false, false, false, false, false, false] (v := ?_) ops_85_1_0 rfl ops_85_1_ns (by kernel_rfl) (by kernel_rfl) (fun _ _ _ h => h) (by rfl) ?y0 (by assumption) ?_
  case y0 =>
    intro w hSw
    try dsimp only at hSw
    go_simp
    try with_reducible rfl
  simp only [List.set_cons_zero, List.set_cons_succ]
  refine take_to 1 10 #[true, true, false, false, false, false, false, false] (v := ?_) ops_85_1_1 rfl ops_85_1_ns (by kernel_rfl) (by kernel_rfl) (fun _ _ _ h => h) (by rfl) ?y1 (by assumption) ?_
  case y1 =>
    intro w hSw
    try dsimp only at hSw
    go_simp
    try with_reducible rfl
  simp only [List.set_cons_zero, List.set_cons_succ]
  refine take_to 3 12 #[true, true, false, true, false, false, false, false] (v := ?_) ops_85_1_3 rfl ops_85_1_ns (by kernel_rfl) (by kernel_rfl) (fun _ _ _ h => h) (by rfl) ?y3 (by assumption) ?_
  case y3 =>
    intro w hSw
    try dsimp only at hSw
    go_simp
    try with_reducible rfl
  simp only [List.set_cons_zero, List.set_cons_succ]
  refine run_to 2 #[true, true, true, true, false, false, false, false] ops_85_1_2 (by kernel_rfl) (by kernel_rfl) (by rfl) (fun K hK => ?_)
  go_simp
  refine (C1.out _ (by exact hHeld.1)).mono ?_
  rintro e w' ⟨rfl, hb⟩
  go_wp2_with fail
  refine hK.out _ _ ?_ (fun hHeld => ?_)
  · (exact HS.out _ (by first | assumption | exact hHeld.1 | exact below_step hHeld.1 (by assumption) | exact below_step hHeld.1 (below_alloc _ _)))
  clear hK K
  try simp only [Act.put, List.setIfInBounds_toArray, List.set_cons_zero, List.set_cons_succ]
  refine run_to 4 #[true, true, true, true, true, false, false, false] ops_85_1_4 (by kernel_rfl) (by kernel_rfl) (by rfl) (fun K hK => ?_)
  go_simp
  refine (C2.out _ (by exact hHeld.1)).mono ?_
  rintro e w' ⟨rfl, hb⟩
  go_wp2_with fail
  refine hK.out _ _ ?_ (fun hHeld => ?_)
  · (exact HS.out _ (by first | assumption | exact hHeld.1 | exact below_step hHeld.1 (by assumption) | exact below_step hHeld.1 (below_alloc _ _)))
  clear hK K
  try simp only [Act.put, List.setIfInBounds_toArray, List.set_cons_zero, List.set_cons_succ]
  refine run_to 5 #[true, true, true, true, true, true, false, false] ops_85_1_5 (by kernel_rfl) (by kernel_rfl) (by rfl) (fun K hK => ?_)
  go_simp
  refine hK.out _ _ ?_ (fun hHeld => ?_)
  · (exact HS.out _ (by first | assumption | exact hHeld.1 | exact below_step hHeld.1 (by assumption) | exact below_step hHeld.1 (below_alloc _ _)))
  clear hK K
  try simp only [Act.put, List.setIfInBounds_toArray, List.set_cons_zero, List.set_cons_succ]
  refine run_to 6 #[true, true, true, true, true, true, true, false] ops_85_1_6 (by kernel_rfl) (by kernel_rfl) (by rfl) (fun K hK => ?_)
  go_simp
  refine (orE_calls _ 0 2 [E1, E2] _ (by simp) (by exact nums2 _ _ _ _)).mono ?_
  rintro e w' ⟨rfl, rfl⟩
  rw [HE.out]
  go_wp2_with fail
  refine hK.out _ _ ?_ (fun hHeld => ?_)
  · (exact HS.out _ (by first | assumption | exact hHeld.1 | exact below_step hHeld.1 (by assumption) | exact below_step hHeld.1 (below_alloc _ _)))
  clear hK K
  try simp only [Act.put, List.setIfInBounds_toArray, List.set_cons_zero, List.set_cons_succ]
  refine take_to 7 8 #[true, true, true, true, true, true, true, true] (v := ?_) ops_85_1_7 rfl ops_85_1_ns (by kernel_rfl) (by kernel_rfl) (fun _ _ _ h => h) (by rfl) ?y7 (by assumption) ?_
  case y7 =>
    intro w hSw
    try dsimp only at hSw
    go_simp
    try with_reducible rfl
  simp only [List.set_cons_zero, List.set_cons_succ]
  refine wpAnyH_done (by kernel_rfl) ?_ _
  have hb1 := hHeld.1
  have hf1 := cells_later Hf.out hb1
  obtain ⟨-, x0, x1, x2⟩ := hHeld
  have f0 := free_of hf1 0
  have f1 := free_of hf1 1
  have g0 := cell_at hf1 0 rfl
  have g1 := cell_at hf1 1 rfl
  by_cases hz : E = 0
  · have e1 : (E != 0) = false := by simp [hz]
    have HC := Lib.hid (C3.out hz)
    have HB := HP.out hz
    have HR := Lib.hid (HF1.out hz)
    have Hz := Lib.hid hz
    have Hb1 := Lib.hid hb1
    clear hz C1 C2 hb0 hb hf1 f0 f1 g0 g1
    go_wp2_with fail
    refine (HC.out _ Hb1.out).mono ?_
    rintro e w2 ⟨rfl, hb2⟩
    go_wp2_with fail
    refine (ofHundredths_calls _ _ (by unfold Int64; omega)).mono ?_
    rintro e w3 ⟨rfl, hb3⟩
    have hb03 := below_step (below_step Hb1.out hb2) hb3
    have hf3 := cells_later Hf.out hb03
    have f0 := free_of hf3 0
    have f1 := free_of hf3 1
    have g0 := cell_at hf3 0 rfl
    have g1 := cell_at hf3 1 rfl
    rw [← HR.out, Hz.out]
    have Hb3 := Lib.hid (below_step HwW.out hb03)
    clear hb2 hb3 hb03 hf3 HB
    rw [show frV R = .agg #[.int .i64 R.1, .int .i64 R.2] from rfl]
    obtain ⟨r1, r2⟩ := R
    dsimp only
    go_wp2_with fail
    try simp only [Exit.inBlock, Exit.then]
    refine bodyPost_ret (v := .tuple #[.agg #[.int .i64 r1, .int .i64 r2], .int .i64 0]) ?_ rfl ⟨by rw [Hz.out]; rfl, (Hb3.out.setCell (p := ⟨w.heap.size + 1, 0, none⟩) (by simp) _).setCell (p := ⟨w.heap.size + 1, 1, none⟩) (by simp) _⟩
    rw [results_cell_tmp rfl]
    go_simp
  · have e1 : (E != 0) = true := by simp [hz]
    have HR := HF0.out hz
    subst HR
    have Hb1 := Lib.hid (below_step hwW hb1)
    clear hz C1 C2 C3 hb0 hb hf1 hb1
    go_wp2_with fail
    try simp only [Exit.inBlock, Exit.then]
    refine bodyPost_ret (v := .tuple #[.agg #[.int .i64 0, .int .i64 0], .int .i64 E]) ?_ rfl ⟨rfl, (Hb1.out.setCell (p := ⟨w.heap.size + 1, 0, none⟩) (by simp) _).setCell (p := ⟨w.heap.size + 1, 1, none⟩) (by simp) _⟩
    rw [results_cell_tmp rfl]
    go_simp
end Go.Proofs.YthlfjfmlmcoihaaGreat
namespace Go.Proofs.YthlfjfmlmcoihaaGreat
open Go.RowKit

theorem one_row {w : World} {T g sz cap : Nat} {row : List Value} (h : w.heap[g]? = some (.cells row.toArray T (0, 0))) (hr : row.length = sz) (hc : 1 ≤ cap) : Rows w T 0 sz (.slice (some ⟨g, 0, none⟩) 1 cap) [row] := by
  refine ⟨by simp, by simpa using hr, .inr ⟨g, 0, cap, _, _, rfl, ⟨Nat.zero_le _, by simpa using hc⟩, h, fun i j u hu => ?_⟩⟩
  match i, hu with
  | 0, hu => simpa using hu
  | i + 1, hu => simp at hu
def exR : RD := ⟨⟨#[114]⟩, E_goal, ⟨#[]⟩, 1, 0, 1, 2⟩
def exT : TD := ⟨E_goal, 3⟩
def exL : LD := ⟨E_a, 1, [exT]⟩
theorem ex_e : ptsE [exR] [] exL = 0 := by kernel_rfl
theorem ex_f : ptsF [exR] [] exL = (3, 2) := by kernel_rfl
set_option maxRecDepth 100000 in
set_option maxHeartbeats 2000000 in
theorem scored_calls (w : World) : Calls Tryz.prog 28 #[] w fun e w' => e = .returned (.bool true) ∧ Below w.heap.size w w' := by
  obtain ⟨W, hW⟩ : ∃ W, W = (w.alloc (.cells (rlRow exR).toArray 119)).alloc (.cells (stRow exT).toArray 122) := ⟨_, rfl⟩
  have hwW : Below w.heap.size w W := by rw [hW]; exact (below_alloc w _).trans ((below_alloc _ _).mono (by simp))
  have hx : W.heap[w.heap.size]? = some (.cells (rlRow exR).toArray 119 (0, 0)) := by rw [hW]; exact heap_al (heap_alloc_new w _) _
  have hy : W.heap[w.heap.size + 1]? = some (.cells (stRow exT).toArray 122 (0, 0)) := by
    rw [hW]; have := heap_alloc_new (w.alloc (.cells (rlRow exR).toArray 119)) (.cells (stRow exT).toArray 122); rwa [World.size_alloc] at this
  have hC := points2_calls 0 0 0 (.slice (some ⟨w.heap.size, 0, none⟩) 1 1) (.slice none 0 0) (.slice (some ⟨w.heap.size + 1, 0, none⟩) 1 1) [exR] [] exL W (one_row hx rfl (Nat.le_refl _)) (by simp [SmallR, exR, Int64]; decide) (by simp) ⟨by simp, by simp, .inl ⟨rfl, rfl⟩⟩ (by simp) (by simp) (one_row hy rfl (Nat.le_refl _)) (by simp [SmallL, SmallT, exL, exT, Int64]; decide)
  rw [ex_e, ex_f] at hC
  have HC := Lib.hid hC
  have HwW := Lib.hid hwW
  clear hx hy hwW hC
  unfold lnV exL exT E_a TwoIs frV at HC
  unfold rlRow stRow exR exT E_goal at hW
  go_enter Tryz.func28, Tryz.ntmps28
  go_wp2_with fail
  change Calls _ _ _ ((w.alloc (.cells #[.string ⟨#[114]⟩, .string ⟨#[103, 111, 97, 108]⟩, .string ⟨#[]⟩, .int .i64 1, .int .i64 0, .int .i64 1, .int .i64 2] 119)).alloc (.cells #[.string ⟨#[103, 111, 97, 108]⟩, .int .i64 3] 122)) _
  have HW := Lib.hid hW
  clear hW
  rw [← HW.out]
  refine HC.out.mono ?_
  rintro e w' ⟨rfl, hb'⟩
  have hb := below_step HwW.out hb'
  clear hb'
  go_wp2_with fail
  have hx := heap_alloc_new w' (.cells #[.int .i64 3, .int .i64 2] 34)
  have hb2 := below_step hb (below_alloc w' (.cells #[.int .i64 3, .int .i64 2] 34))
  go_ret
  exact ⟨rfl, hb2⟩
end Go.Proofs.YthlfjfmlmcoihaaGreat
