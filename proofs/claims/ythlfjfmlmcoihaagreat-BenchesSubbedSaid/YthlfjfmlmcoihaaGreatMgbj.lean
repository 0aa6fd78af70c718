/- slices.DeleteFunc at strings with any predicate. -/
import Derived.Test.YthlfjfmlmcoihaaGreatMgay
import Derived.Test.YthlfjfmlmcoihaaGreatMgac
namespace Go.Proofs.YthlfjfmlmcoihaaGreat
open Go.RowKit

theorem zero_str (w : World) : (zeroValue 9).run Tryz.prog w = .ok (.string ⟨#[]⟩) w := by kernel_rfl
theorem filter_take_firstS {α : Type} {p : α → Bool} {fs : List α} {i : Nat} {f : α} (hf : fs[i]? = some f) (hpf : p f = true) (h0 : ∀ j g, j < i → fs[j]? = some g → p g = false) : (fs.take (i + 1)).filter (fun g => !p g) = fs.take i := by
  have hi := (List.getElem?_eq_some_iff.1 hf).1
  have e : fs.take (i + 1) = fs.take i ++ [f] := by
    rw [List.take_succ_eq_append_getElem hi, (List.getElem?_eq_some_iff.1 hf).2]
  rw [e, List.filter_append]
  simp only [List.filter_cons, hpf, Bool.not_true, Bool.false_eq_true, if_false, List.filter_nil, List.append_nil]
  rw [List.filter_eq_self]
  intro g hg
  obtain ⟨j, hj⟩ := List.getElem?_of_mem hg
  rw [List.getElem?_take] at hj
  split at hj
  · rename_i hji
    rw [h0 j g hji hj]; rfl
  · cases hj
theorem filter_snocS {α : Type} (p : α → Bool) {l : List α} {k : Nat} {x : α} (hk : l[k]? = some x) : (l.take (k + 1)).filter p = (l.take k).filter p ++ (if p x then [x] else []) := by
  have hlt : k < l.length := (List.getElem?_eq_some_iff.1 hk).1
  have e : l.take (k + 1) = l.take k ++ [x] := by
    rw [List.take_succ_eq_append_getElem hlt, (List.getElem?_eq_some_iff.1 hk).2]
  rw [e, List.filter_append]
  cases hp : p x <;> simp [hp]
abbrev sRow (k : ByteArray) : List Value := [.string k]
theorem s_cell {w : World} {g off i : Nat} {ks : List ByteArray} {k : ByteArray} (h : RowsAt w 9 g off 1 (ks.map sRow)) (hk : ks[i]? = some k) : w.cell? ⟨g, off + i, none⟩ = some (.string k) := by
  have hr : (ks.map sRow)[i]? = some (sRow k) := by simp [hk]
  have := h.cell hr (j := 0) rfl
  simpa using this
theorem s_set {w : World} {g off i : Nat} {ks : List ByteArray} {k0 : ByteArray} (h : RowsAt w 9 g off 1 (ks.map sRow)) (hk : ks[i]? = some k0) (k : ByteArray) : RowsAt (w.setCell ⟨g, off + i, none⟩ (.string k)) 9 g off 1 ((ks.set i k).map sRow) := by
  have := h.set (i := i) (f := 0) (row := sRow k0) (by simp [hk]) (by decide) (.string k)
  rw [List.map_set]
  simpa using this
/-- What striking some out leaves. -/
def LeftS (p : ByteArray → Bool) (lo : Nat) (ks : List ByteArray) (w : World) (row : Option Nat) (e : Ending) (w' : World) : Prop := ∃ v', e = .returned v' ∧ Strs w' lo v' (ks.filter fun k => !p k) ∧ w.grownBy w' row
set_option maxRecDepth 100000 in
set_option maxHeartbeats 4000000 in
theorem deleteS_calls (G : Nat) (caps : Array Value) (p : ByteArray → Bool) (lo g off cap : Nat) (ks : List ByteArray) (w : World) (hv : RowsAt w 9 g off 1 (ks.map sRow)) (hn : ks.length ≤ 1000000) (hcap : ks.length ≤ cap) (hl : lo ≤ g) (eg : ∀ args w, (callFunc G args).run Tryz.prog w = .ok (.enter G args) w)
    (hp : ∀ (W : World) (k : ByteArray), k ∈ ks → w.grownBy W (some g) → Calls Tryz.prog G (#[.string k] ++ caps) W (BoolIs (p k) W)) :
    Calls Tryz.prog 38 #[.slice (some ⟨g, off, none⟩) ks.length cap, .func (.func G) #[] caps] w (LeftS p lo ks w (some g)) := by
  have HF := Lib.hid (show ∀ (ks' : List ByteArray) (w' : World) (c : Nat), RowsAt w' 9 g off 1 (ks'.map sRow) → ks'.length ≤ 1000000 → ks'.length ≤ c → Strs w' lo (.slice (some ⟨g, off, none⟩) ks'.length c) ks' from fun ks' w' c h hn hc => by
    have := h.rows (cap := c) (by simpa using hn) hl (by simpa using hc)
    simpa [Strs] using this)
  have Hp := Lib.hid hp
  have C := Lib.hid (indexSF_calls G caps p lo _ ks w (HF.out ks w cap hv hn hcap) eg fun W f hm hb => Hp.out W f hm (gb_below hb _))
  clear hp
  obtain ⟨n, hnn⟩ : ∃ n, ks.length = n := ⟨_, rfl⟩
  have HN := Lib.hid hnn
  rw [hnn] at hn hcap C ⊢
  clear hnn
  go_enter Tryz.func38, Tryz.ntmps38
  go_wp2_with fail
  refine C.out.mono ?_
  rintro e w1 ⟨he, hb1⟩
  rcases he with ⟨rfl, hnone⟩ | ⟨i, f0, rfl, hf0, hpf0, h0⟩
  · have Hall := Lib.hid (show (ks.filter fun f => !p f) = ks from List.filter_eq_self.2 fun f hf => by rw [hnone f hf]; rfl)
    clear hnone C
    go_wp2_with fail
    go_ret
    refine ⟨_, rfl, ?_, gb_below hb1 _⟩
    rw [Hall.out, ← HN.out]
    exact HF.out ks w1 cap (hv.below hb1) (by have := HN.out; omega) (by have := HN.out; omega)
  · have hi : i < n := by rw [← HN.out]; exact (List.getElem?_eq_some_iff.1 hf0).1
    have Hstart := Lib.hid (filter_take_firstS hf0 hpf0 h0)
    have hne : ((i : Int) == -1) = false := by rw [beq_eq_false_iff_ne]; omega
    have hv1 := hv.below hb1
    clear hf0 hpf0 h0 C hv
    go_wp2_with fail
    go_loopw [5, 6] (fun a b wr => ∃ (i j : Nat) (fs' : List ByteArray), i < j ∧ j ≤ n ∧ a = .int .i64 i ∧ b = .int .i64 j ∧ fs'.length = n ∧ RowsAt wr 9 g off 1 (fs'.map sRow) ∧ w.grownBy wr (some g) ∧ Hid (fs'.take i = (ks.take j).filter (fun f => !p f)) ∧ Hid (∀ t, j ≤ t → fs'[t]? = ks[t]?)) (fun _ b _ => n - (intOf b).toNat)
    case atStart => exact ⟨i, i + 1, ks, by omega, by omega, rfl, by go_num, HN.out, hv1, gb_below hb1 _, Lib.hid Hstart.out.symm, Lib.hid fun _ _ => rfl⟩
    case round =>
      clear hv1
      obtain ⟨i, j, fs', hij, hj, rfl, rfl, hlen, hr, hgw, HT, HE⟩ := hrel
      by_cases hlt : j < n
      · obtain ⟨f, hf⟩ : ∃ f, fs'[j]? = some f := ⟨_, List.getElem?_eq_getElem (show j < fs'.length by omega)⟩
        obtain ⟨fi, hfi⟩ : ∃ f, fs'[i]? = some f := ⟨_, List.getElem?_eq_getElem (show i < fs'.length by omega)⟩
        have hf' : ks[j]? = some f := by rw [← HE.out j (Nat.le_refl _)]; exact hf
        have Hsn := Lib.hid (filter_snocS (fun f => !p f) hf')
        have Hm := Lib.hid (List.mem_of_getElem? hf')
        have Hfi := Lib.hid hfi
        have a0 := s_cell hr hf
        clear hf hf' hfi
        go_wp2_with fail
        refine (Hp.out _ f Hm.out hgw).mono ?_
        rintro e w2 ⟨rfl, hb2⟩
        have hr2 := hr.below hb2
        have hgW2 := gb_trans hgw (gb_below hb2 (some g))
        cases hpf : p f
        · have p0 := s_cell hr2 Hfi.out
          have f0 := fun o => hr2.free o
          have HT' : Hid ((fs'.set i f).take (i + 1) = (ks.take (j + 1)).filter (fun f => !p f)) := Lib.hid (by
            have hil : i < fs'.length := by omega
            rw [Hsn.out, hpf, ← HT.out, List.take_succ_eq_append_getElem (by simpa using hil)]
            simp [List.take_set_of_le])
          have HE' : Hid (∀ t, j + 1 ≤ t → (fs'.set i f)[t]? = ks[t]?) := Lib.hid fun t ht => by
            rw [List.getElem?_set_ne (by omega)]; exact HE.out t (by omega)
          have hset := Lib.hid (s_set hr2 Hfi.out f)
          have hgs := Lib.hid (gb_trans hgW2 (gb_setCell w2 g (off + i) (.string f)))
          have hw4 : (i : Int) < (n : Int) := by omega
          clear hpf a0 hb2 hgW2 hgw hr hr2
          go_wp2_with fail
          go_roundw
          case rel => exact ⟨i + 1, j + 1, fs'.set i f, by omega, by omega, by go_num, by go_num, by simpa using hlen, hset.out, hgs.out, HT', HE'⟩
          case measure => simp [intOf]; omega
        · have HT' : Hid (fs'.take i = (ks.take (j + 1)).filter (fun f => !p f)) := Lib.hid (by rw [Hsn.out, hpf, ← HT.out]; simp)
          have HE' : Hid (∀ t, j + 1 ≤ t → fs'[t]? = ks[t]?) := Lib.hid fun t ht => HE.out t (by omega)
          clear hpf
          go_wp2_with fail
          go_roundw
          case rel => exact ⟨i, j + 1, fs', by omega, by omega, rfl, by go_num, hlen, hr2, hgW2, HT', HE'⟩
          case measure => simp [intOf]; omega
      · obtain rfl : j = n := by omega
        have Hfin := Lib.hid (show fs'.take i = ks.filter (fun f => !p f) by rw [HT.out, ← HN.out, List.take_length])
        obtain ⟨w4, hrun, hr4, hg4⟩ := run_clear_rows (P := Tryz.prog) (t := 39) (ty := 0) (sz := 1) (i := i) (n := j - i) (cap := cap - i) Tryz.underlying39 zero_str rfl (by simp [Value.cells, Value.oneCell']) hr (by simp; omega) (by decide)
        have Hr4 := Lib.hid hr4
        have Hg4 := Lib.hid hg4
        simp only [Nat.mul_one] at hrun
        clear hr4 hg4 hr
        go_wp2_with fail
        go_ret
        refine ⟨_, rfl, ?_, gb_trans hgw Hg4.out⟩
        have h5 := Hr4.out
        rw [← List.map_take] at h5
        have h6 := HF.out (fs'.take i) _ cap h5 (by simp; omega) (by simp; omega)
        have e : (fs'.take i).length = i := by simp; omega
        rw [e, Hfin.out] at h6
        exact h6
set_option maxRecDepth 100000 in
set_option maxHeartbeats 1000000 in
theorem deleteS0_calls (G : Nat) (caps : Array Value) (w : World) (eg : ∀ args w, (callFunc G args).run Tryz.prog w = .ok (.enter G args) w) :
    Calls Tryz.prog 38 #[.slice none 0 0, .func (.func G) #[] caps] w fun e w' => e = .returned (.slice none 0 0) ∧ Below w.heap.size w w' := by
  have C := Lib.hid (indexSF_calls G caps (fun _ => true) 0 (.slice none 0 0) [] w ⟨by simp, by simp, .inl ⟨rfl, rfl⟩⟩ eg (fun W k h => by simp at h))
  go_enter Tryz.func38, Tryz.ntmps38
  go_wp2_with fail
  refine C.out.mono ?_
  rintro e w1 ⟨he, hb1⟩
  rcases he with ⟨rfl, _⟩ | ⟨i, f0, rfl, hf0, _⟩
  · go_wp2_with fail
    go_ret
    exact ⟨rfl, hb1⟩
  · simp at hf0


end Go.Proofs.YthlfjfmlmcoihaaGreat
