/- Slots looked through: IndexFunc and ContainsFunc with any predicate. -/
import Derived.Test.YthlfjfmlmcoihaaGreatMgap
import Derived.Test.YthlfjfmlmcoihaaGreatMgah
namespace Go.Proofs.YthlfjfmlmcoihaaGreat
open Go.RowKit

theorem sls_at {w : World} {lo : Nat} {v : Value} {ts : List SlD} (h : Sls w lo v ts) :
    (v = .slice none 0 0 ∧ ts = []) ∨ ∃ g off cap, v = .slice (some ⟨g, off, none⟩) ts.length cap ∧ lo ≤ g ∧ g < w.heap.size ∧ ts.length ≤ 1000000 ∧
      ∀ (i : Nat) (c : SlD), ts[i]? = some c → ∃ x, w.cell? ⟨g, off + i * 2, none⟩ = some (.string c.key) ∧ w.cell? ⟨g, off + i * 2 + 1, none⟩ = some x ∧ Strs w lo x c.pos := by
  rcases NRows.at h with h | ⟨g, off, cap, e1, e2, e3, e4, hc⟩
  · exact .inl h
  · refine .inr ⟨g, off, cap, e1, e2, e3, e4, fun i c hi => ?_⟩
    obtain ⟨x, h1, h2⟩ := hc i c hi
    exact ⟨x, h1 0 _ rfl, h1 1 _ rfl, h2⟩
/-- What a look for the first one gives. -/
def IdxFirstL (p : SlD → Bool) (fs : List SlD) (w : World) (e : Ending) (w' : World) : Prop :=
  ((e = .returned (.int .i64 (-1)) ∧ ∀ f ∈ fs, p f = false) ∨ ∃ i f, e = .returned (.int .i64 ((i : Nat) : Int)) ∧ fs[i]? = some f ∧ p f = true ∧ ∀ j g, j < i → fs[j]? = some g → p g = false) ∧ Below w.heap.size w w'
set_option maxRecDepth 100000 in
set_option maxHeartbeats 1000000 in
theorem indexSl_calls (g : Nat) (caps : Array Value) (p : SlD → Bool) (lo : Nat) (v : Value) (fs : List SlD) (w : World) (hv : Sls w lo v fs) (eg : ∀ args w, (callFunc g args).run Tryz.prog w = .ok (.enter g args) w)
    (hp : ∀ (W : World) (f : SlD) (xa : Option Addr) (xc : Nat), Below w.heap.size w W → Calls Tryz.prog g (#[.agg #[.string f.key, .slice xa f.pos.length xc]] ++ caps) W (BoolIs (p f) W)) :
    Calls Tryz.prog 116 #[v, .func (.func g) #[] caps] w (IdxFirstL p fs w) := by
  have Hp := Lib.hid hp
  clear hp
  rcases sls_at hv with ⟨rfl, rfl⟩ | ⟨gg, off, cap, rfl, hlo, hg, hn, hcell⟩
  · clear hv
    go_enter Tryz.func116, Tryz.ntmps116
    go_wp2_with fail
    refine wp_loop_rounds 1 ?_
    rw [rounds_succ]
    go_wp2_with fail
    go_ret
    exact ⟨.inl ⟨rfl, by simp⟩, Below.refl _ _⟩
  · have Hc := Lib.hid hcell
    clear hv hcell
    go_enter Tryz.func116, Tryz.ntmps116
    go_wp2_with fail
    go_loopw [8] (fun i wr => ∃ k : Nat, k ≤ fs.length ∧ i = .int .i64 k ∧ Hid (∀ j g, j < k → fs[j]? = some g → p g = false) ∧ Below w.heap.size w wr) (fun i _ => fs.length - (intOf i).toNat)
    case atStart => exact ⟨0, Nat.zero_le _, rfl, Lib.hid fun _ _ h => by omega, Below.refl _ _⟩
    case round =>
      obtain ⟨k, hk, rfl, H0, hb⟩ := hrel
      by_cases hlt : k < fs.length
      · obtain ⟨f, hf⟩ : ∃ f, fs[k]? = some f := ⟨fs[k], List.getElem?_eq_getElem hlt⟩
        obtain ⟨x, q0, q1, hx⟩ := Hc.out k f hf
        obtain ⟨xa, xc, rfl⟩ := strs_shape hx
        have g0 := below_cell hb q0
        have g1 := below_cell hb q1
        have Hf := Lib.hid hf
        clear hf q0 q1 hx
        go_wp2_with fail
        refine (Hp.out _ f xa xc hb).mono ?_
        rintro e w1 ⟨rfl, hb1⟩
        have hb2 := below_step hb hb1
        clear g0 g1
        cases hpf : p f
        · have H1 : Hid (∀ j g, j < k + 1 → fs[j]? = some g → p g = false) := Lib.hid fun j g hj hg' => by
            rcases Nat.lt_succ_iff_lt_or_eq.1 hj with h | rfl
            · exact H0.out j g h hg'
            · rw [Hf.out] at hg'; cases hg'; exact hpf
          clear hpf
          go_wp2_with fail
          go_roundw
          case rel => exact ⟨k + 1, by omega, by go_num, H1, hb2⟩
          case measure => simp [intOf]; omega
        · have Hq := Lib.hid hpf
          clear hpf
          go_wp2_with fail
          go_ret
          exact ⟨.inr ⟨k, f, rfl, Hf.out, Hq.out, H0.out⟩, hb2⟩
      · obtain rfl : k = fs.length := by omega
        go_wp2_with fail
        go_ret
        refine ⟨.inl ⟨rfl, fun f hf => ?_⟩, hb⟩
        obtain ⟨i, hi⟩ := List.getElem?_of_mem hf
        exact H0.out i f (List.getElem?_eq_some_iff.1 hi).1 hi

/-- Is one of a list so? -/
theorem containsSl_calls (g : Nat) (caps : Array Value) (p : SlD → Bool) (lo : Nat) (v : Value) (fs : List SlD) (w : World) (hv : Sls w lo v fs) (eg : ∀ args w, (callFunc g args).run Tryz.prog w = .ok (.enter g args) w)
    (hp : ∀ (W : World) (f : SlD) (xa : Option Addr) (xc : Nat), Below w.heap.size w W → Calls Tryz.prog g (#[.agg #[.string f.key, .slice xa f.pos.length xc]] ++ caps) W (BoolIs (p f) W)) :
    Calls Tryz.prog 62 #[v, .func (.func g) #[] caps] w (BoolIs (fs.any p) w) := by
  have C := Lib.hid (indexSl_calls g caps p lo v fs w hv eg hp)
  obtain ⟨a, c, rfl⟩ := NRows.shape hv
  clear hv hp eg
  go_enter Tryz.func62, Tryz.ntmps62
  go_wp2_with fail
  refine C.out.mono ?_
  rintro e w1 ⟨⟨rfl, h0⟩ | ⟨i, f, rfl, hf, hpf, _⟩, hb⟩
  · have hr : fs.any p = false := by rw [List.any_eq_false]; intro x hx; rw [h0 x hx]; simp
    clear C h0
    go_wp2_with fail
    go_ret
    exact ⟨ret_bool (by rw [hr]), hb⟩
  · have hr : fs.any p = true := List.any_eq_true.2 ⟨f, List.mem_of_getElem? hf, hpf⟩
    clear C hf hpf
    go_wp2_with fail
    go_ret
    exact ⟨ret_bool (by rw [hr]), hb⟩
end Go.Proofs.YthlfjfmlmcoihaaGreat
