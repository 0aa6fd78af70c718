/- Who suits a slot: the program's way and the reference's. -/
import Derived.Test.YthlfjfmlmcoihaaGreatMgae
import Derived.Test.YthlfjfmlmcoihaaGreatMgaj
namespace Go.Proofs.YthlfjfmlmcoihaaGreat
open Go.RowKit

def IdxFirstS (p : ByteArray → Bool) (ks : List ByteArray) (w : World) (e : Ending) (w' : World) : Prop :=
  ((e = .returned (.int .i64 (-1)) ∧ ∀ k ∈ ks, p k = false) ∨ ∃ i k, e = .returned (.int .i64 ((i : Nat) : Int)) ∧ ks[i]? = some k ∧ p k = true ∧ ∀ j g, j < i → ks[j]? = some g → p g = false) ∧ Below w.heap.size w w'
set_option maxRecDepth 100000 in
set_option maxHeartbeats 1000000 in
theorem indexSF_calls (g : Nat) (caps : Array Value) (p : ByteArray → Bool) (lo : Nat) (v : Value) (ks : List ByteArray) (w : World) (hv : Strs w lo v ks) (eg : ∀ args w, (callFunc g args).run Tryz.prog w = .ok (.enter g args) w)
    (hp : ∀ (W : World) (k : ByteArray), k ∈ ks → Below w.heap.size w W → Calls Tryz.prog g (#[.string k] ++ caps) W (BoolIs (p k) W)) :
    Calls Tryz.prog 92 #[v, .func (.func g) #[] caps] w (IdxFirstS p ks w) := by
  have Hp := Lib.hid hp
  clear hp
  rcases strs_at hv with ⟨rfl, rfl⟩ | ⟨gg, off, cap, rfl, hlo, hg, hn, hcell⟩
  · clear hv
    go_enter Tryz.func92, Tryz.ntmps92
    go_wp2_with fail
    refine wp_loop_rounds 1 ?_
    rw [rounds_succ]
    go_wp2_with fail
    go_ret
    exact ⟨.inl ⟨rfl, by simp⟩, Below.refl _ _⟩
  · have Hc := Lib.hid hcell
    clear hv hcell
    go_enter Tryz.func92, Tryz.ntmps92
    go_wp2_with fail
    go_loopw [8] (fun i wr => ∃ k : Nat, k ≤ ks.length ∧ i = .int .i64 k ∧ Hid (∀ j g, j < k → ks[j]? = some g → p g = false) ∧ Below w.heap.size w wr) (fun i _ => ks.length - (intOf i).toNat)
    case atStart => exact ⟨0, Nat.zero_le _, rfl, Lib.hid fun _ _ h => by omega, Below.refl _ _⟩
    case round =>
      obtain ⟨k, hk, rfl, H0, hb⟩ := hrel
      by_cases hlt : k < ks.length
      · obtain ⟨f, hf⟩ : ∃ f, ks[k]? = some f := ⟨ks[k], List.getElem?_eq_getElem hlt⟩
        have g0 := below_cell hb (Hc.out k f hf)
        have Hf := Lib.hid hf
        clear hf
        go_wp2_with fail
        refine (Hp.out _ f (List.mem_of_getElem? Hf.out) hb).mono ?_
        rintro e w1 ⟨rfl, hb1⟩
        have hb2 := below_step hb hb1
        clear g0
        cases hpf : p f
        · have H1 : Hid (∀ j g, j < k + 1 → ks[j]? = some g → p g = false) := Lib.hid fun j g hj hg' => by
            rcases Nat.lt_succ_iff_lt_or_eq.1 hj with h | rfl
            · exact H0.out j g h hg'
            · rw [Hf.out] at hg'; cases hg'; exact hpf
          clear hpf
          go_wp2_with fail
          go_roundw
          case rel => exact ⟨k + 1, by omega, by go_num, H1, hb2⟩
          case measure => simp [intOf]; omega
        · have Hq := Lib.hid hpf
          clear hpf
          go_wp2_with fail
          go_ret
          exact ⟨.inr ⟨k, f, rfl, Hf.out, Hq.out, H0.out⟩, hb2⟩
      · obtain rfl : k = ks.length := by omega
        go_wp2_with fail
        go_ret
        refine ⟨.inl ⟨rfl, fun f hf => ?_⟩, hb⟩
        obtain ⟨i, hi⟩ := List.getElem?_of_mem hf
        exact H0.out i f (List.getElem?_eq_some_iff.1 hi).1 hi
theorem containsSF_calls (g : Nat) (caps : Array Value) (p : ByteArray → Bool) (lo : Nat) (v : Value) (ks : List ByteArray) (w : World) (hv : Strs w lo v ks) (eg : ∀ args w, (callFunc g args).run Tryz.prog w = .ok (.enter g args) w)
    (hp : ∀ (W : World) (k : ByteArray), k ∈ ks → Below w.heap.size w W → Calls Tryz.prog g (#[.string k] ++ caps) W (BoolIs (p k) W)) :
    Calls Tryz.prog 50 #[v, .func (.func g) #[] caps] w (BoolIs (ks.any p) w) := by
  have C := Lib.hid (indexSF_calls g caps p lo v ks w hv eg hp)
  obtain ⟨a, c, rfl⟩ := strs_shape hv
  clear hv hp eg
  go_enter Tryz.func50, Tryz.ntmps50
  go_wp2_with fail
  refine C.out.mono ?_
  rintro e w1 ⟨⟨rfl, h0⟩ | ⟨i, f, rfl, hf, hpf, _⟩, hb⟩
  · have hr : ks.any p = false := by rw [List.any_eq_false]; intro x hx; rw [h0 x hx]; simp
    clear C h0
    go_wp2_with fail
    go_ret
    exact ⟨ret_bool (by rw [hr]), hb⟩
  · have hr : ks.any p = true := List.any_eq_true.2 ⟨f, List.mem_of_getElem? hf, hpf⟩
    clear C hf hpf
    go_wp2_with fail
    go_ret
    exact ⟨ret_bool (by rw [hr]), hb⟩
def slV (s : SlD) (x : Value) : Value := .agg #[.string s.key, x]
def scV (c : ScD) (x : Value) : Value := .agg #[.string c.who, x, .int .i64 c.num, .int .i64 c.den, .bool c.played]
/-- Has a scorer one of the positions of a slot? -/
def fitB (s : SlD) (c : ScD) : Bool := s.pos.any fun p => cnS c.pos p
def suitB (c : ScD) (s : SlD) : Bool := c.pos.any fun p => cnS s.pos p
theorem cnS_iff {ks : List ByteArray} {x : ByteArray} : cnS ks x = true ↔ x ∈ ks := by
  exact Lib.containsS_iff ks x
theorem suit_fit (c : ScD) (s : SlD) : suitB c s = fitB s c := by
  rw [Bool.eq_iff_iff]
  unfold suitB fitB
  simp only [List.any_eq_true, cnS_iff]
  constructor
  · rintro ⟨p, h1, h2⟩; exact ⟨p, h2, h1⟩
  · rintro ⟨p, h1, h2⟩; exact ⟨p, h2, h1⟩
theorem suits1_calls (lo : Nat) (pv : Value) (s : SlD) (k : ByteArray) (X : Nat) (w : World) (hK : Strs w lo pv s.pos) (hX : w.cell? ⟨X, 1, none⟩ = some pv) :
    Calls Tryz.prog 128 #[.string k, .pointer (some ⟨X, 0, none⟩)] w (BoolIs (cnS s.pos k) w) := by
  have C := Lib.hid (contains_calls lo pv s.pos k w hK)
  obtain ⟨a, c, rfl⟩ := strs_shape hK
  clear hK
  go_enter Tryz.func128, Tryz.ntmps128
  go_wp2_with fail
  refine C.out.mono ?_
  rintro e w1 ⟨rfl, rfl⟩
  go_wp2_with fail
  go_ret
  exact ⟨rfl, Below.refl _ _⟩
theorem fit1_calls (lo : Nat) (pv : Value) (c : ScD) (k : ByteArray) (X : Nat) (w : World) (hK : Strs w lo pv c.pos) (hX : w.cell? ⟨X, 1, none⟩ = some pv) :
    Calls Tryz.prog 121 #[.string k, .pointer (some ⟨X, 0, none⟩)] w (BoolIs (cnS c.pos k) w) := by
  have C := Lib.hid (contains_calls lo pv c.pos k w hK)
  obtain ⟨a, c, rfl⟩ := strs_shape hK
  clear hK
  go_enter Tryz.func121, Tryz.ntmps121
  go_wp2_with fail
  refine C.out.mono ?_
  rintro e w1 ⟨rfl, rfl⟩
  go_wp2_with fail
  go_ret
  exact ⟨rfl, Below.refl _ _⟩
set_option maxHeartbeats 1000000 in
theorem suits_calls (lo lo' : Nat) (cv sv : Value) (c : ScD) (s : SlD) (w : World) (hc : Strs w lo cv c.pos) (hs : Strs w lo' sv s.pos) :
    Calls Tryz.prog 84 #[scV c cv, slV s sv] w (BoolIs (suitB c s) w) := by
  obtain ⟨W, hW⟩ : ∃ W, W = (w.alloc (.cells #[.string c.who, cv, .int .i64 c.num, .int .i64 c.den, .bool c.played] 83)).alloc (.cells #[.string s.key, sv] 78) := ⟨_, rfl⟩
  have hb0 : Below w.heap.size w W := by rw [hW]; exact (below_alloc w _).trans ((below_alloc _ _).mono (by simp))
  have x1 : W.cell? ⟨w.heap.size, 1, none⟩ = some cv := by rw [hW]; exact cell_at (heap_al (heap_alloc_new w _) _) 1 rfl
  have y1 : W.cell? ⟨w.heap.size + 1, 1, none⟩ = some sv := by
    have := heap_alloc_new (w.alloc (.cells #[.string c.who, cv, .int .i64 c.num, .int .i64 c.den, .bool c.played] 83)) (.cells #[.string s.key, sv] 78)
    rw [World.size_alloc] at this
    rw [hW]; exact cell_at this 1 rfl
  have C := Lib.hid (containsSF_calls 128 #[.pointer (some ⟨w.heap.size + 1, 0, none⟩)] (fun p => cnS s.pos p) lo cv c.pos W (hc.below hb0) (by intro args w; go_simp) (fun V k _ hb => suits1_calls lo' sv s k (w.heap.size + 1) V ((hs.below hb0).below hb) (below_cell hb y1)))
  have HW := Lib.hid hW
  obtain ⟨a, cc, rfl⟩ := strs_shape hc
  obtain ⟨a', cc', rfl⟩ := strs_shape hs
  unfold scV slV
  clear hc hs hW
  go_enter Tryz.func84, Tryz.ntmps84
  go_upto_region 1 with fail
  rw [← HW.out]
  clear HW
  go_wp2_with fail
  refine C.out.mono ?_
  rintro e w1 ⟨rfl, hb⟩
  clear C
  go_wp2_with fail
  go_ret
  exact ⟨rfl, below_step hb0 hb⟩
set_option maxHeartbeats 1000000 in
theorem fit_calls (lo lo' : Nat) (cv sv : Value) (c : ScD) (s : SlD) (w : World) (hc : Strs w lo cv c.pos) (hs : Strs w lo' sv s.pos) :
    Calls Tryz.prog 68 #[slV s sv, scV c cv] w (BoolIs (fitB s c) w) := by
  obtain ⟨W, hW⟩ : ∃ W, W = (w.alloc (.cells #[.string s.key, sv] 78)).alloc (.cells #[.string c.who, cv, .int .i64 c.num, .int .i64 c.den, .bool c.played] 83) := ⟨_, rfl⟩
  have hb0 : Below w.heap.size w W := by rw [hW]; exact (below_alloc w _).trans ((below_alloc _ _).mono (by simp))
  have x1 : W.cell? ⟨w.heap.size, 1, none⟩ = some sv := by rw [hW]; exact cell_at (heap_al (heap_alloc_new w _) _) 1 rfl
  have y1 : W.cell? ⟨w.heap.size + 1, 1, none⟩ = some cv := by
    have := heap_alloc_new (w.alloc (.cells #[.string s.key, sv] 78)) (.cells #[.string c.who, cv, .int .i64 c.num, .int .i64 c.den, .bool c.played] 83)
    rw [World.size_alloc] at this
    rw [hW]; exact cell_at this 1 rfl
  have C := Lib.hid (containsSF_calls 121 #[.pointer (some ⟨w.heap.size + 1, 0, none⟩)] (fun p => cnS c.pos p) lo' sv s.pos W (hs.below hb0) (by intro args w; go_simp) (fun V k _ hb => fit1_calls lo cv c k (w.heap.size + 1) V ((hc.below hb0).below hb) (below_cell hb y1)))
  have HW := Lib.hid hW
  obtain ⟨a, cc, rfl⟩ := strs_shape hc
  obtain ⟨a', cc', rfl⟩ := strs_shape hs
  unfold scV slV
  clear hc hs hW
  go_enter Tryz.func68, Tryz.ntmps68
  go_upto_region 1 with fail
  rw [← HW.out]
  clear HW
  go_wp2_with fail
  refine C.out.mono ?_
  rintro e w1 ⟨rfl, hb⟩
  clear C
  go_wp2_with fail
  go_ret
  exact ⟨rfl, below_step hb0 hb⟩
end Go.Proofs.YthlfjfmlmcoihaaGreat
