/- Fills in memory; who is in a slot. -/
import Derived.Test.YthlfjfmlmcoihaaGreatMgac
import Derived.Test.YthlfjfmlmcoihaaGreatMgah
import Derived.Test.YthlfjfmlmcoihaaGreatMgao
namespace Go.Proofs.YthlfjfmlmcoihaaGreat
open Go.RowKit

structure FiD where
  slot : ByteArray
  who : ByteArray
def fiRow (f : FiD) : List Value := [.string f.slot, .string f.who]
def Fis (w : World) (lo : Nat) (v : Value) (fs : List FiD) : Prop := Rows w 49 lo 2 v (fs.map fiRow)
theorem Fis.below {w w' : World} {lo : Nat} {v : Value} {fs : List FiD} (h : Fis w lo v fs) (hb : Below w.heap.size w w') : Fis w' lo v fs := Rows.below h hb
theorem Fis.other {w w' : World} {lo B : Nat} {v : Value} {fs : List FiD} (h : Fis w lo v fs) (hg : w.grownBy w' (some B)) (hB : B < lo) : Fis w' lo v fs := Rows.other h hg hB
theorem fis_at {w : World} {lo : Nat} {v : Value} {ts : List FiD} (h : Fis w lo v ts) :
    (v = .slice none 0 0 ∧ ts = []) ∨ ∃ g off cap, v = .slice (some ⟨g, off, none⟩) ts.length cap ∧ lo ≤ g ∧ g < w.heap.size ∧ ts.length ≤ 1000000 ∧
      ∀ (i : Nat) (t : FiD), ts[i]? = some t → w.cell? ⟨g, off + i * 2, none⟩ = some (.string t.slot) ∧ w.cell? ⟨g, off + i * 2 + 1, none⟩ = some (.string t.who) := by
  rcases rows_at h with ⟨e1, e2⟩ | ⟨g, off, cap, e1, e2, e3, hc⟩
  · exact .inl ⟨e1, by simpa using e2⟩
  · refine .inr ⟨g, off, cap, by simpa using e1, e2, e3, by simpa using h.small, fun i t ht => ?_⟩
    have hx : ∀ (j : Nat) (u : Value), (fiRow t)[j]? = some u → w.cell? ⟨g, off + i * 2 + j, none⟩ = some u := fun j u hu => hc i j u (by simpa [ht] using hu)
    exact ⟨hx 0 _ rfl, hx 1 _ rfl⟩
theorem fis_shape {w : World} {lo : Nat} {v : Value} {ts : List FiD} (h : Fis w lo v ts) : ∃ a c, v = .slice a ts.length c := by
  rcases fis_at h with ⟨rfl, rfl⟩ | ⟨g, off, cap, rfl, _⟩
  · exact ⟨none, 0, rfl⟩
  · exact ⟨_, _, rfl⟩
theorem fi_each (ts : List FiD) : ∀ r ∈ ts.map fiRow, r.length = 2 := by
  intro r hr
  obtain ⟨t, _, rfl⟩ := List.mem_map.1 hr
  rfl
theorem fis_of_owns {w : World} {base : Nat} {v : Value} {ts : List FiD} (h : w.ownsRow base 49 2 v ts.length (ts.map fiRow).flatten) (hs : ts.length ≤ 1000000) : Fis w base v ts :=
  Rows.of_owns (by simpa using h) (by simpa using hs) (fi_each ts)
/-- What a look for the first one gives. -/
def IdxFirstF (p : FiD → Bool) (fs : List FiD) (w : World) (e : Ending) (w' : World) : Prop :=
  ((e = .returned (.int .i64 (-1)) ∧ ∀ f ∈ fs, p f = false) ∨ ∃ i f, e = .returned (.int .i64 ((i : Nat) : Int)) ∧ fs[i]? = some f ∧ p f = true ∧ ∀ j g, j < i → fs[j]? = some g → p g = false) ∧ Below w.heap.size w w'
set_option maxRecDepth 100000 in
set_option maxHeartbeats 1000000 in
theorem indexFi_calls (g : Nat) (caps : Array Value) (p : FiD → Bool) (lo : Nat) (v : Value) (fs : List FiD) (w : World) (hv : Fis w lo v fs) (eg : ∀ args w, (callFunc g args).run Tryz.prog w = .ok (.enter g args) w)
    (hp : ∀ (W : World) (f : FiD), Below w.heap.size w W → Calls Tryz.prog g (#[.agg #[.string f.slot, .string f.who]] ++ caps) W (BoolIs (p f) W)) :
    Calls Tryz.prog 69 #[v, .func (.func g) #[] caps] w (IdxFirstF p fs w) := by
  have Hp := Lib.hid hp
  clear hp
  rcases fis_at hv with ⟨rfl, rfl⟩ | ⟨gg, off, cap, rfl, hlo, hg, hn, hcell⟩
  · clear hv
    go_enter Tryz.func69, Tryz.ntmps69
    go_wp2_with fail
    refine wp_loop_rounds 1 ?_
    rw [rounds_succ]
    go_wp2_with fail
    go_ret
    exact ⟨.inl ⟨rfl, by simp⟩, Below.refl _ _⟩
  · have Hc := Lib.hid hcell
    clear hv hcell
    go_enter Tryz.func69, Tryz.ntmps69
    go_wp2_with fail
    go_loopw [8] (fun i wr => ∃ k : Nat, k ≤ fs.length ∧ i = .int .i64 k ∧ Hid (∀ j g, j < k → fs[j]? = some g → p g = false) ∧ Below w.heap.size w wr) (fun i _ => fs.length - (intOf i).toNat)
    case atStart => exact ⟨0, Nat.zero_le _, rfl, Lib.hid fun _ _ h => by omega, Below.refl _ _⟩
    case round =>
      obtain ⟨k, hk, rfl, H0, hb⟩ := hrel
      by_cases hlt : k < fs.length
      · obtain ⟨f, hf⟩ : ∃ f, fs[k]? = some f := ⟨fs[k], List.getElem?_eq_getElem hlt⟩
        obtain ⟨q0, q1⟩ := Hc.out k f hf
        have g0 := below_cell hb q0
        have g1 := below_cell hb q1
        have Hf := Lib.hid hf
        clear hf q0 q1
        go_wp2_with fail
        refine (Hp.out _ f hb).mono ?_
        rintro e w1 ⟨rfl, hb1⟩
        have hb2 := below_step hb hb1
        clear g0 g1
        cases hpf : p f
        · have H1 : Hid (∀ j g, j < k + 1 → fs[j]? = some g → p g = false) := Lib.hid fun j g hj hg' => by
            rcases Nat.lt_succ_iff_lt_or_eq.1 hj with h | rfl
            · exact H0.out j g h hg'
            · rw [Hf.out] at hg'; cases hg'; exact hpf
          clear hpf
          go_wp2_with fail
          go_roundw
          case rel => exact ⟨k + 1, by omega, by go_num, H1, hb2⟩
          case measure => simp [intOf]; omega
        · have Hq := Lib.hid hpf
          clear hpf
          go_wp2_with fail
          go_ret
          exact ⟨.inr ⟨k, f, rfl, Hf.out, Hq.out, H0.out⟩, hb2⟩
      · obtain rfl : k = fs.length := by omega
        go_wp2_with fail
        go_ret
        refine ⟨.inl ⟨rfl, fun f hf => ?_⟩, hb⟩
        obtain ⟨i, hi⟩ := List.getElem?_of_mem hf
        exact H0.out i f (List.getElem?_eq_some_iff.1 hi).1 hi

/-- Is one of a list so? -/
theorem containsFi_calls (g : Nat) (caps : Array Value) (p : FiD → Bool) (lo : Nat) (v : Value) (fs : List FiD) (w : World) (hv : Fis w lo v fs) (eg : ∀ args w, (callFunc g args).run Tryz.prog w = .ok (.enter g args) w)
    (hp : ∀ (W : World) (f : FiD), Below w.heap.size w W → Calls Tryz.prog g (#[.agg #[.string f.slot, .string f.who]] ++ caps) W (BoolIs (p f) W)) :
    Calls Tryz.prog 18 #[v, .func (.func g) #[] caps] w (BoolIs (fs.any p) w) := by
  have C := Lib.hid (indexFi_calls g caps p lo v fs w hv eg hp)
  obtain ⟨a, c, rfl⟩ := fis_shape hv
  clear hv hp eg
  go_enter Tryz.func18, Tryz.ntmps18
  go_wp2_with fail
  refine C.out.mono ?_
  rintro e w1 ⟨⟨rfl, h0⟩ | ⟨i, f, rfl, hf, hpf, _⟩, hb⟩
  · have hr : fs.any p = false := by rw [List.any_eq_false]; intro x hx; rw [h0 x hx]; simp
    clear C h0
    go_wp2_with fail
    go_ret
    exact ⟨ret_bool (by rw [hr]), hb⟩
  · have hr : fs.any p = true := List.any_eq_true.2 ⟨f, List.mem_of_getElem? hf, hpf⟩
    clear C hf hpf
    go_wp2_with fail
    go_ret
    exact ⟨ret_bool (by rw [hr]), hb⟩
/-- Is a player in a slot? -/
def inF (fs : List FiD) (k : ByteArray) : Bool := fs.any fun f => beqS f.who k
theorem fielded1_calls (f : FiD) (k : ByteArray) (X : Nat) (w : World) (hX : w.cell? ⟨X, 0, none⟩ = some (.string k)) :
    Calls Tryz.prog 102 #[.agg #[.string f.slot, .string f.who], .pointer (some ⟨X, 0, none⟩)] w (BoolIs (beqS f.who k) w) := by
  go_enter Tryz.func102, Tryz.ntmps102
  have hX1 := below_cell (below_alloc w (.cells #[.string f.slot, .string f.who] 49)) hX
  go_wp2_with fail
  go_ret
  exact ⟨ret_bool (by unfold beqS; rfl), below_alloc w _⟩
set_option maxHeartbeats 1000000 in
theorem fielded_calls (lo : Nat) (v : Value) (fs : List FiD) (k : ByteArray) (w : World) (hv : Fis w lo v fs) :
    Calls Tryz.prog 55 #[v, .string k] w (BoolIs (inF fs k) w) := by
  have hb0 := below_alloc w (.cells #[.string k] 9)
  have x0 : (w.alloc (.cells #[.string k] 9)).cell? ⟨w.heap.size, 0, none⟩ = some (.string k) := by rw [World.cell?_alloc_at _ _ _ _ rfl]; rfl
  have C := Lib.hid (containsFi_calls 102 #[.pointer (some ⟨w.heap.size, 0, none⟩)] (fun f => beqS f.who k) lo v fs _ (hv.below hb0) (by intro args w; go_simp) (fun W f hb => fielded1_calls f k w.heap.size W (below_cell hb x0)))
  obtain ⟨a, c, rfl⟩ := fis_shape hv
  clear hv x0
  go_enter Tryz.func55, Tryz.ntmps55
  go_wp2_with fail
  refine C.out.mono ?_
  rintro e w1 ⟨rfl, hb⟩
  clear C
  go_wp2_with fail
  go_ret
  exact ⟨rfl, below_step hb0 hb⟩
end Go.Proofs.YthlfjfmlmcoihaaGreat
