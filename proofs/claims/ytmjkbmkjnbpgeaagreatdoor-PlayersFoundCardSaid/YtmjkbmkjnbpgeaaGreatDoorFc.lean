/- The reference's GamesOf: a copy, from which is struck what is not meant. Rows of strings: sorted, compacted, struck out. -/
import Derived.Test.YtmjkbmkjnbpgeaaGreatDoorFb
import Derived.Test.YtmjkbmkjnbpgeaaGreatDoorShelf
import Derived.Test.YtmjkbmkjnbpgeaaGreatDoorBk
import Derived.Sort.OwnSorted
namespace Go.Proofs.YtmjkbmkjnbpgeaaGreatDoor
open Go.RowKit

set_option maxRecDepth 100000 in
set_option maxHeartbeats 1000000 in
theorem cloneFx_calls (lo : Nat) (v : Value) (fs : List FD) (w : World) (hv : Fxs w lo v fs) :
    Calls Tryz.prog 113 #[v] w fun e w' => ∃ v', OwnFx w' w.heap.size v' fs ∧ e = .returned v' ∧ Below w.heap.size w w' := by
  obtain ⟨i0, hi, hz0, hz1, hz2⟩ := info_parts info_fx
  have hnil := fun a n c => Lib.run_eql_slice_nil (P := Tryz.prog) w 51 72 a n c 0 0 Tryz.underlying51
  rcases hv.shape with ⟨rfl, h0⟩ | ⟨g, off, cap, cur, fr, rfl, hlc, hg, hc⟩
  · obtain rfl : fs = [] := by simpa using h0
    clear hv hi hz0 hz1 hz2
    go_enter Tryz.func113, Tryz.ntmps113
    go_wp2_with fail
    go_ret
    exact ⟨_, World.ownsRow_nil _ _ _ _, rfl, Below.refl _ _⟩
  · clear hlc
    have hn := hv.small
    simp only [List.length_map] at hn
    have hgl := lt_of_heap hg
    have hfl : ((fs.map fxRow).flatten).length = fs.length * 4 := by
      clear hc hn hg hv
      induction fs with
      | nil => rfl
      | cons f fs ih => simp [fxRow, ih]; omega
    have hflat : ∀ j u, (fs.map fxRow).flatten[j]? = some u → cur[off + j]? = some u := by
      intro j u hu
      have hj : j < fs.length * 4 := by rw [← hfl]; exact (List.getElem?_eq_some_iff.1 hu).1
      have hq : j / 4 < fs.length := by omega
      obtain ⟨f, hf⟩ : ∃ f, fs[j / 4]? = some f := ⟨_, List.getElem?_eq_getElem hq⟩
      have h1 : ((fs.map fxRow)[j / 4]?.getD [])[j % 4]? = (fxRow f)[j % 4]? := by simp [hf]
      obtain ⟨u', hu'⟩ : ∃ u', (fxRow f)[j % 4]? = some u' := ⟨_, List.getElem?_eq_getElem (show j % 4 < (fxRow f).length by simp [fxRow]; omega)⟩
      have h2 := flat_at (sz := 4) (fs.map fxRow) (by simp [fxRow]) (j / 4) (j % 4) u' (by rw [h1]; exact hu')
      rw [show j / 4 * 4 + j % 4 = j by omega, hu] at h2
      cases h2
      have h3 := hc (j / 4) (j % 4) u (by rw [h1]; exact hu')
      rwa [show off + j / 4 * 4 + j % 4 = off + j by omega] at h3
    have hown : OwnFx (w.alloc (.cells #[] 72)) w.heap.size (.slice (some ⟨w.heap.size, 0, none⟩) 0 0) [] := World.ownsRow_made w #[] 0 (Nat.le_refl _) (by unfold maxLen; omega) rfl
    have hnews : ∀ j u, (fs.map fxRow).flatten[j]? = some u → (w.alloc (.cells #[] 72)).cell? ((⟨g, off, none⟩ : Addr).add j) = some u := by
      intro j u hu
      have hadd : (⟨g, off, none⟩ : Addr).add j = ⟨g, off + j, none⟩ := by unfold Addr.add; split <;> simp_all
      rw [hadd, World.cell?_alloc_past _ _ _ hgl, cell_of_row w g _ cur _ fr hg]
      exact hflat j u hu
    have Hn := Lib.hid hnews
    have Hl := Lib.hid hfl
    clear hnews hc hflat hfl hg hv
    simp only [List.length_map]
    go_enter Tryz.func113, Tryz.ntmps113
    go_wp2_with (at_builtin; refine wpList_append_own _ rfl _ _ 51 rfl w.heap.size 72 i0 (.agg #[.int .i64 0, .int .i64 0, .string ⟨#[]⟩, .string ⟨#[]⟩]) 4 48 Tryz.underlying51 hi hz0 hz1 hz2 rfl (by decide) _ 0 [] rfl hown ⟨g, off, none⟩ fs.length cap ((fs.map fxRow).flatten) rfl Hl.out Hn.out ?c2 ?c3 ?c4 ?c5 ?_)
    case c2 =>
      intro u hu
      obtain ⟨r, hr, hur⟩ := List.mem_flatten.1 hu
      obtain ⟨f, _, rfl⟩ := List.mem_map.1 hr
      simp only [fxRow, List.mem_cons, List.not_mem_nil, or_false] at hur
      rcases hur with rfl | rfl | rfl | rfl <;> rfl
    case c3 => unfold maxLen; omega
    case c4 => omega
    case c5 => simp
    intro v' w4 hown4 hgrow _
    go_wp2_with fail
    go_ret
    refine ⟨_, ?_, rfl, (below_alloc w _).grown hgrow (by simp) fun r hr => (own_block hown r hr).1⟩
    unfold OwnFx
    simpa using hown4

/-- What a look for the first one gives. -/
def IdxFirst (p : FD → Bool) (fs : List FD) (w : World) (e : Ending) (w' : World) : Prop :=
  ((e = .returned (.int .i64 (-1)) ∧ ∀ f ∈ fs, p f = false) ∨ ∃ i f, e = .returned (.int .i64 ((i : Nat) : Int)) ∧ fs[i]? = some f ∧ p f = true ∧ ∀ j g, j < i → fs[j]? = some g → p g = false) ∧ Below w.heap.size w w'
set_option maxRecDepth 100000 in
set_option maxHeartbeats 1000000 in
theorem indexFx_calls (g : Nat) (caps : Array Value) (p : FD → Bool) (lo : Nat) (v : Value) (fs : List FD) (w : World) (hv : Fxs w lo v fs) (eg : ∀ args w, (callFunc g args).run Tryz.prog w = .ok (.enter g args) w)
    (hp : ∀ (W : World) (f : FD), Below w.heap.size w W → Calls Tryz.prog g (#[.agg #[.int .i64 f.week, .int .i64 f.moment, .string f.home, .string f.away]] ++ caps) W (BoolIs (p f) W)) :
    Calls Tryz.prog 173 #[v, .func (.func g) #[] caps] w (IdxFirst p fs w) := by
  have Hp := Lib.hid hp
  clear hp
  rcases fxs_at hv with ⟨rfl, rfl⟩ | ⟨gg, off, cap, rfl, hlo, hg, hn, hcell⟩
  · clear hv
    go_enter Tryz.func173, Tryz.ntmps173
    go_wp2_with fail
    refine wp_loop_rounds 1 ?_
    rw [rounds_succ]
    go_wp2_with fail
    go_ret
    exact ⟨.inl ⟨rfl, by simp⟩, Below.refl _ _⟩
  · have Hc := Lib.hid hcell
    clear hv hcell
    go_enter Tryz.func173, Tryz.ntmps173
    go_wp2_with fail
    go_loopw [8] (fun i wr => ∃ k : Nat, k ≤ fs.length ∧ i = .int .i64 k ∧ Hid (∀ j g, j < k → fs[j]? = some g → p g = false) ∧ Below w.heap.size w wr) (fun i _ => fs.length - (intOf i).toNat)
    case atStart => exact ⟨0, Nat.zero_le _, rfl, Lib.hid fun _ _ h => by omega, Below.refl _ _⟩
    case round =>
      obtain ⟨k, hk, rfl, H0, hb⟩ := hrel
      by_cases hlt : k < fs.length
      · obtain ⟨f, hf⟩ : ∃ f, fs[k]? = some f := ⟨fs[k], List.getElem?_eq_getElem hlt⟩
        obtain ⟨q0, q1, q2, q3⟩ := Hc.out k f hf
        have g0 := below_cell hb q0
        have g1 := below_cell hb q1
        have g2 := below_cell hb q2
        have g3 := below_cell hb q3
        have Hf := Lib.hid hf
        clear hf q0 q1 q2 q3
        go_wp2_with fail
        refine (Hp.out _ f hb).mono ?_
        rintro e w1 ⟨rfl, hb1⟩
        have hb2 := below_step hb hb1
        clear g0 g1 g2 g3
        cases hpf : p f
        · have H1 : Hid (∀ j g, j < k + 1 → fs[j]? = some g → p g = false) := Lib.hid fun j g hj hg' => by
            rcases Nat.lt_succ_iff_lt_or_eq.1 hj with h | rfl
            · exact H0.out j g h hg'
            · rw [Hf.out] at hg'; cases hg'; exact hpf
          clear hpf
          go_wp2_with fail
          go_roundw
          case rel => exact ⟨k + 1, by omega, by go_num, H1, hb2⟩
          case measure => simp [intOf]; omega
        · have Hq := Lib.hid hpf
          clear hpf
          go_wp2_with fail
          go_ret
          exact ⟨.inr ⟨k, f, rfl, Hf.out, Hq.out, H0.out⟩, hb2⟩
      · obtain rfl : k = fs.length := by omega
        go_wp2_with fail
        go_ret
        refine ⟨.inl ⟨rfl, fun f hf => ?_⟩, hb⟩
        obtain ⟨i, hi⟩ := List.getElem?_of_mem hf
        exact H0.out i f (List.getElem?_eq_some_iff.1 hi).1 hi

theorem filter_take_first {p : FD → Bool} {fs : List FD} {i : Nat} {f : FD} (hf : fs[i]? = some f) (hpf : p f = true) (h0 : ∀ j g, j < i → fs[j]? = some g → p g = false) : (fs.take (i + 1)).filter (fun g => !p g) = fs.take i := by
  have hi := (List.getElem?_eq_some_iff.1 hf).1
  rw [filter_snoc _ hf, hpf]
  simp only [Bool.not_true, Bool.false_eq_true, if_false, List.append_nil]
  rw [List.filter_eq_self]
  intro g hg
  obtain ⟨j, hj⟩ := List.getElem?_of_mem hg
  rw [List.getElem?_take] at hj
  split at hj
  · rename_i hji
    rw [h0 j g hji hj]; rfl
  · cases hj
/-- What striking some out leaves. -/
def LeftFx (p : FD → Bool) (lo : Nat) (fs : List FD) (w : World) (row : Option Nat) (e : Ending) (w' : World) : Prop := ∃ v', e = .returned v' ∧ Fxs w' lo v' (fs.filter fun f => !p f) ∧ w.grownBy w' row
set_option maxRecDepth 100000 in
set_option maxHeartbeats 4000000 in
theorem deleteFx_calls (G : Nat) (caps : Array Value) (p : FD → Bool) (lo g off cap : Nat) (fs : List FD) (w : World) (hv : RowsAt w 72 g off 4 (fs.map fxRow)) (hn : fs.length ≤ 1000000) (hcap : fs.length ≤ cap) (hl : lo ≤ g) (eg : ∀ args w, (callFunc G args).run Tryz.prog w = .ok (.enter G args) w)
    (hp : ∀ (W : World) (f : FD), w.grownBy W (some g) → Calls Tryz.prog G (#[.agg #[.int .i64 f.week, .int .i64 f.moment, .string f.home, .string f.away]] ++ caps) W (BoolIs (p f) W)) :
    Calls Tryz.prog 112 #[.slice (some ⟨g, off, none⟩) fs.length cap, .func (.func G) #[] caps] w (LeftFx p lo fs w (some g)) := by
  have HF := Lib.hid (show ∀ (fs' : List FD) (w' : World) (c : Nat), RowsAt w' 72 g off 4 (fs'.map fxRow) → fs'.length ≤ 1000000 → fs'.length ≤ c → Fxs w' lo (.slice (some ⟨g, off, none⟩) fs'.length c) fs' from fun fs' w' c h hn hc => by
    have := h.rows (cap := c) (by simpa using hn) hl (by simpa using hc)
    simpa [Fxs] using this)
  have Hp := Lib.hid hp
  have C := Lib.hid (indexFx_calls G caps p lo _ fs w (HF.out fs w cap hv hn hcap) eg fun W f hb => Hp.out W f (gb_below hb _))
  clear hp
  obtain ⟨n, hnn⟩ : ∃ n, fs.length = n := ⟨_, rfl⟩
  have HN := Lib.hid hnn
  rw [hnn] at hn hcap C ⊢
  clear hnn
  go_enter Tryz.func112, Tryz.ntmps112
  go_wp2_with fail
  refine C.out.mono ?_
  rintro e w1 ⟨he, hb1⟩
  rcases he with ⟨rfl, hnone⟩ | ⟨i, f0, rfl, hf0, hpf0, h0⟩
  · have Hall := Lib.hid (show (fs.filter fun f => !p f) = fs from List.filter_eq_self.2 fun f hf => by rw [hnone f hf]; rfl)
    clear hnone C
    go_wp2_with fail
    go_ret
    refine ⟨_, rfl, ?_, gb_below hb1 _⟩
    rw [Hall.out, ← HN.out]
    exact HF.out fs w1 cap (hv.below hb1) (by have := HN.out; omega) (by have := HN.out; omega)
  · have hi : i < n := by rw [← HN.out]; exact (List.getElem?_eq_some_iff.1 hf0).1
    have Hstart := Lib.hid (filter_take_first hf0 hpf0 h0)
    have hne : ((i : Int) == -1) = false := by rw [beq_eq_false_iff_ne]; omega
    have hv1 := hv.below hb1
    clear hf0 hpf0 h0 C hv
    go_wp2_with fail
    go_loopw [5, 6] (fun a b wr => ∃ (i j : Nat) (fs' : List FD), i < j ∧ j ≤ n ∧ a = .int .i64 i ∧ b = .int .i64 j ∧ fs'.length = n ∧ RowsAt wr 72 g off 4 (fs'.map fxRow) ∧ w.grownBy wr (some g) ∧ Hid (fs'.take i = (fs.take j).filter (fun f => !p f)) ∧ Hid (∀ t, j ≤ t → fs'[t]? = fs[t]?)) (fun _ b _ => n - (intOf b).toNat)
    case atStart => exact ⟨i, i + 1, fs, by omega, by omega, rfl, by go_num, HN.out, hv1, gb_below hb1 _, Lib.hid Hstart.out.symm, Lib.hid fun _ _ => rfl⟩
    case round =>
      clear hv1
      obtain ⟨i, j, fs', hij, hj, rfl, rfl, hlen, hr, hgw, HT, HE⟩ := hrel
      by_cases hlt : j < n
      · obtain ⟨f, hf⟩ : ∃ f, fs'[j]? = some f := ⟨_, List.getElem?_eq_getElem (show j < fs'.length by omega)⟩
        obtain ⟨fi, hfi⟩ : ∃ f, fs'[i]? = some f := ⟨_, List.getElem?_eq_getElem (show i < fs'.length by omega)⟩
        have hf' : fs[j]? = some f := by rw [← HE.out j (Nat.le_refl _)]; exact hf
        have Hsn := Lib.hid (filter_snoc (fun f => !p f) hf')
        have Hfi := Lib.hid hfi
        obtain ⟨a0, a1, a2, a3⟩ := fx_cells hr hf
        have hgW := gb_trans hgw (gb_alloc wr (.cells #[.int .i64 f.week, .int .i64 f.moment, .string f.home, .string f.away] 72) (some g))
        clear hf hf' hfi
        go_wp2_with fail
        refine (Hp.out _ f hgW).mono ?_
        rintro e w2 ⟨rfl, hb2⟩
        have hr2 := (hr.below (below_alloc wr (.cells #[.int .i64 f.week, .int .i64 f.moment, .string f.home, .string f.away] 72))).below hb2
        have hgW2 := gb_trans hgW (gb_below hb2 (some g))
        cases hpf : p f
        · have d0 : w2.cell? ⟨wr.heap.size, 0, none⟩ = some (.int .i64 f.week) := below_cell hb2 (by rw [World.cell?_alloc_at _ _ _ _ rfl]; rfl)
          have d1 : w2.cell? ⟨wr.heap.size, 1, none⟩ = some (.int .i64 f.moment) := below_cell hb2 (by rw [World.cell?_alloc_at _ _ _ _ rfl]; rfl)
          have d2 : w2.cell? ⟨wr.heap.size, 2, none⟩ = some (.string f.home) := below_cell hb2 (by rw [World.cell?_alloc_at _ _ _ _ rfl]; rfl)
          have d3 : w2.cell? ⟨wr.heap.size, 3, none⟩ = some (.string f.away) := below_cell hb2 (by rw [World.cell?_alloc_at _ _ _ _ rfl]; rfl)
          obtain ⟨p0, p1, p2, p3⟩ := fx_cells hr2 Hfi.out
          have f0 := fun o => hr2.free o
          have hgz : g ≠ wr.heap.size := by have := hr.lt; omega
          have HT' : Hid ((fs'.set i f).take (i + 1) = (fs.take (j + 1)).filter (fun f => !p f)) := Lib.hid (by
            have hil : i < fs'.length := by omega
            rw [Hsn.out, hpf, ← HT.out, List.take_succ_eq_append_getElem (by simpa using hil)]
            simp [List.take_set_of_le])
          have HE' : Hid (∀ t, j + 1 ≤ t → (fs'.set i f)[t]? = fs[t]?) := Lib.hid fun t ht => by
            rw [List.getElem?_set_ne (by omega)]; exact HE.out t (by omega)
          have hset := Lib.hid (fx_set4 hr2 Hfi.out f)
          have hgs := Lib.hid (gb_trans hgW2 (gb_set4 w2 g (off + i * 4) (.int .i64 f.week) (.int .i64 f.moment) (.string f.home) (.string f.away)))
          have hw4 : (i : Int) < (n : Int) := by omega
          clear hpf a0 a1 a2 a3 hb2 hgW hgW2 hgw hr hr2
          go_wp2_with fail
          go_roundw
          case rel => exact ⟨i + 1, j + 1, fs'.set i f, by omega, by omega, by go_num, by go_num, by simpa using hlen, hset.out, hgs.out, HT', HE'⟩
          case measure => simp [intOf]; omega
        · have HT' : Hid (fs'.take i = (fs.take (j + 1)).filter (fun f => !p f)) := Lib.hid (by rw [Hsn.out, hpf, ← HT.out]; simp)
          have HE' : Hid (∀ t, j + 1 ≤ t → fs'[t]? = fs[t]?) := Lib.hid fun t ht => HE.out t (by omega)
          clear hpf
          go_wp2_with fail
          go_roundw
          case rel => exact ⟨i, j + 1, fs', by omega, by omega, rfl, by go_num, hlen, hr2, hgW2, HT', HE'⟩
          case measure => simp [intOf]; omega
      · obtain rfl : j = n := by omega
        have Hfin := Lib.hid (show fs'.take i = fs.filter (fun f => !p f) by rw [HT.out, ← HN.out, List.take_length])
        obtain ⟨w4, hrun, hr4, hg4⟩ := run_clear_rows (P := Tryz.prog) (t := 51) (ty := 0) (sz := 4) (i := i) (n := j - i) (cap := cap - i) Tryz.underlying51 zero_fx rfl (by simp [Value.cells, Value.oneCell']) hr (by simp; omega) (by decide)
        have Hr4 := Lib.hid hr4
        have Hg4 := Lib.hid hg4
        clear hr4 hg4 hr
        go_wp2_with fail
        go_ret
        refine ⟨_, rfl, ?_, gb_trans hgw Hg4.out⟩
        have h5 := Hr4.out
        rw [← List.map_take] at h5
        have h6 := HF.out (fs'.take i) _ cap h5 (by simp; omega) (by simp; omega)
        have e : (fs'.take i).length = i := by simp; omega
        rw [e, Hfin.out] at h6
        exact h6
set_option maxRecDepth 100000 in
set_option maxHeartbeats 1000000 in
theorem deleteFx0_calls (G : Nat) (caps : Array Value) (p : FD → Bool) (w : World) (eg : ∀ args w, (callFunc G args).run Tryz.prog w = .ok (.enter G args) w)
    (hp : ∀ (W : World) (f : FD), Below w.heap.size w W → Calls Tryz.prog G (#[.agg #[.int .i64 f.week, .int .i64 f.moment, .string f.home, .string f.away]] ++ caps) W (BoolIs (p f) W)) :
    Calls Tryz.prog 112 #[.slice none 0 0, .func (.func G) #[] caps] w fun e w' => e = .returned (.slice none 0 0) ∧ Below w.heap.size w w' := by
  have C := Lib.hid (indexFx_calls G caps p 0 (.slice none 0 0) [] w ⟨by simp, by simp, .inl ⟨rfl, rfl⟩⟩ eg hp)
  clear hp
  go_enter Tryz.func112, Tryz.ntmps112
  go_wp2_with fail
  refine C.out.mono ?_
  rintro e w1 ⟨he, hb1⟩
  rcases he with ⟨rfl, _⟩ | ⟨i, f0, rfl, hf0, _⟩
  · go_wp2_with fail
    go_ret
    exact ⟨rfl, hb1⟩
  · simp at hf0

set_option maxRecDepth 100000 in
set_option maxHeartbeats 1000000 in
theorem gamesOf1_calls (ck cc : Nat) (week : Int) (club : ByteArray) (f : FD) (w : World) (h1 : w.cell? ⟨ck, 0, none⟩ = some (.int .i64 week)) (h2 : w.cell? ⟨cc, 0, none⟩ = some (.string club)) :
    Calls Tryz.prog 114 #[.agg #[.int .i64 f.week, .int .i64 f.moment, .string f.home, .string f.away], .pointer (some ⟨ck, 0, none⟩), .pointer (some ⟨cc, 0, none⟩)] w (BoolIs (!meets week club f) w) := by
  have hb := below_alloc w (.cells #[.int .i64 f.week, .int .i64 f.moment, .string f.home, .string f.away] 72)
  have k1 := below_cell hb h1
  have k2 := below_cell hb h2
  have HM := Lib.hid (show meets week club f = (f.week == week && (beqS f.home club || beqS f.away club)) from rfl)
  generalize meets week club f = M at HM ⊢
  clear h1 h2
  cases hw : f.week == week
  · have n1 : (f.week != week) = true := by rw [bne, hw]; rfl
    go_enter Tryz.func114, Tryz.ntmps114
    go_wp2_with fail
    go_ret
    exact ⟨ret_bool (by rw [HM.out, hw]; simp), hb⟩
  · have n1 : (f.week != week) = false := by rw [bne, hw]; rfl
    cases hh : beqS f.home club
    · have n2 : (f.home.toList != club.toList) = true := by have e2 : (f.home.toList == club.toList) = false := hh; rw [bne, e2]; rfl
      have e2 : (f.home.toList == club.toList) = false := hh
      cases ha : beqS f.away club
      · have e3 : (f.away.toList == club.toList) = false := ha
        have n3 : (f.away.toList != club.toList) = true := by rw [bne, e3]; rfl
        go_enter Tryz.func114, Tryz.ntmps114
        go_wp2_with fail
        go_ret
        exact ⟨ret_bool (by rw [HM.out, hw, hh, ha]; rfl), hb⟩
      · have e3 : (f.away.toList == club.toList) = true := ha
        have n3 : (f.away.toList != club.toList) = false := by rw [bne, e3]; rfl
        go_enter Tryz.func114, Tryz.ntmps114
        go_wp2_with fail
        go_ret
        exact ⟨ret_bool (by rw [HM.out, hw, hh, ha]; rfl), hb⟩
    · have e2 : (f.home.toList == club.toList) = true := hh
      have n2 : (f.home.toList != club.toList) = false := by rw [bne, e2]; rfl
      go_enter Tryz.func114, Tryz.ntmps114
      go_wp2_with fail
      go_ret
      exact ⟨ret_bool (by rw [HM.out, hw, hh]; rfl), hb⟩

def MadeFx (fs : List FD) (w : World) (e : Ending) (w' : World) : Prop := ∃ v, Fxs w' w.heap.size v fs ∧ e = .returned v ∧ Below w.heap.size w w'
set_option maxRecDepth 100000 in
set_option maxHeartbeats 1000000 in
theorem gamesOf_calls (lo : Nat) (v : Value) (fs : List FD) (club : ByteArray) (week : Int) (w : World) (hF : Fxs w lo v fs) (hn : fs.length ≤ 10000) :
    Calls Tryz.prog 41 #[v, .string club, .int .i64 week] w (MadeFx (fs.filter (meets week club)) w) := by
  obtain ⟨W, hW⟩ : ∃ W, W = (w.alloc (.cells #[.string club] 9)).alloc (.cells #[.int .i64 week] 3) := ⟨_, rfl⟩
  have hwW : Below w.heap.size w W := by rw [hW]; exact below2 w _ _
  have x0 : W.cell? ⟨w.heap.size, 0, none⟩ = some (.string club) := by rw [hW]; exact two_cell0 w _ _ _ _
  have x1 : W.cell? ⟨w.heap.size + 1, 0, none⟩ = some (.int .i64 week) := by rw [hW]; exact two_cell1 w _ _ _ _
  have hWs : W.heap.size = w.heap.size + 2 := by rw [hW]; simp
  have hFW := hF.below hwW
  obtain ⟨fa, fc, rfl⟩ := fxs_shape hF
  have C := Lib.hid (cloneFx_calls lo _ fs W hFW)
  have HK := Lib.hid (show ∀ (w1 : World) (g : Nat), Below W.heap.size W w1 → W.heap.size ≤ g → ∀ (W2 : World) (f : FD), w1.grownBy W2 (some g) → Calls Tryz.prog 114 (#[.agg #[.int .i64 f.week, .int .i64 f.moment, .string f.home, .string f.away]] ++ #[.pointer (some ⟨w.heap.size + 1, 0, none⟩), .pointer (some ⟨w.heap.size, 0, none⟩)]) W2 (BoolIs (!meets week club f) W2) from fun w1 g hb hg W2 f hgr =>
    gamesOf1_calls _ _ week club f W2 (gb_cell hgr (below_cell hb x1) (by omega)) (gb_cell hgr (below_cell hb x0) (by omega)))
  have HN := Lib.hid (show (fs.filter fun f => !!meets week club f) = fs.filter (meets week club) by simp)
  have HWs := Lib.hid hWs
  clear hF hFW hWs
  go_enter Tryz.func41, Tryz.ntmps41
  go_upto_region 1 with fail
  rw [← hW]
  clear hW
  go_wp2_with fail
  refine C.out.mono ?_
  rintro e w1 ⟨v1, hown, rfl, hb1⟩
  have hb01 := below_step hwW hb1
  rcases hown.2 with ⟨rfl, h0⟩ | ⟨g, cap, cur, rfl, hgW, hgh, hcap, _⟩
  · obtain rfl : fs = [] := List.eq_nil_of_length_eq_zero h0
    have D := Lib.hid (deleteFx0_calls 114 #[.pointer (some ⟨w.heap.size + 1, 0, none⟩), .pointer (some ⟨w.heap.size, 0, none⟩)] (fun f => !meets week club f) w1 (enters_of Tryz.func114 (by kernel_rfl) rfl) fun W2 f hb => HK.out w1 W.heap.size hb1 (Nat.le_refl _) W2 f (gb_below hb _))
    clear C hown h0
    go_wp2_with fail
    refine D.out.mono ?_
    rintro e w2 ⟨rfl, hb2⟩
    go_wp2_with fail
    go_ret
    exact ⟨_, ⟨by simp, by simp, .inl ⟨rfl, rfl⟩⟩, rfl, below_step hb01 hb2⟩
  · obtain ⟨hr, hlg⟩ := RowsAt.of_owns (rows := fs.map fxRow) (by rw [List.length_map]; exact hown) (by simp [fxRow])
    have D := Lib.hid (deleteFx_calls 114 #[.pointer (some ⟨w.heap.size + 1, 0, none⟩), .pointer (some ⟨w.heap.size, 0, none⟩)] (fun f => !meets week club f) W.heap.size g 0 cap fs w1 hr (by omega) hcap hgW (enters_of Tryz.func114 (by kernel_rfl) rfl) fun W2 f hgr => HK.out w1 g hb1 hgW W2 f hgr)
    clear C hown hgh hr hcap
    go_wp2_with fail
    refine D.out.mono ?_
    rintro e w2 ⟨v2, rfl, hF2, hg2⟩
    have HF2 := Lib.hid hF2
    rw [HN.out] at HF2
    have hb2 := hb01.grown hg2 hb01.size (fun r hr => by cases hr; have := HWs.out; omega)
    clear D hF2
    go_wp2_with fail
    go_ret
    exact ⟨_, HF2.out.mono (by have := HWs.out; omega), rfl, hb2⟩
end Go.Proofs.YtmjkbmkjnbpgeaaGreatDoor
namespace Go.Proofs.YtmjkbmkjnbpgeaaGreatDoor
open Go.RowKit Go.Sort

def toL (k : ByteArray) : List UInt8 := k.data.toList
def ofL (l : List UInt8) : ByteArray := ⟨l.toArray⟩
theorem ofL_toL (k : ByteArray) : ofL (toL k) = k := by cases k; simp [ofL, toL]
theorem toL_ofL (l : List UInt8) : toL (ofL l) = l := by simp [ofL, toL]
theorem enc_ofL (l : List UInt8) : Value.string (ofL l) = encStr l := rfl
theorem map_ofL_toL (ks : List ByteArray) : (ks.map toL).map ofL = ks := by
  induction ks with
  | nil => rfl
  | cons k ks ih => simp only [List.map_cons, ofL_toL, ih]
theorem enc_map (ls : List (List UInt8)) : (ls.map ofL).map Value.string = ls.map encStr := by
  rw [List.map_map]; rfl
theorem enc_map' (ks : List ByteArray) : ks.map Value.string = (ks.map toL).map encStr := by
  rw [← enc_map, map_ofL_toL]
/-- Sorted; each once of those that follow each other. -/
def sortL (ks : List ByteArray) : List ByteArray := ((ks.map toL).mergeSort fun x y => decide (x ≤ y)).map ofL
def compactL (ks : List ByteArray) : List ByteArray := (Lib.compact (ks.map toL)).map ofL
theorem sortL_length (ks : List ByteArray) : (sortL ks).length = ks.length := by simp [sortL]
theorem compact_le (zs : List (List UInt8)) : (Lib.compact zs).length ≤ zs.length := by
  unfold Lib.compact Lib.compactUpTo
  rw [List.length_map]
  exact Nat.le_trans (List.length_filter_le _ _) (by simp)
theorem compactL_le (ks : List ByteArray) : (compactL ks).length ≤ ks.length := by
  unfold compactL
  rw [List.length_map]
  exact Nat.le_trans (compact_le _) (by simp)

theorem sortS_calls (base : Nat) (v : Value) (ks : List ByteArray) (w : World) (h : OwnS w base v ks) (hn : ks.length ≤ 1000000) :
    Calls Tryz.prog 108 #[v] w fun e w' => e = .returned (.tuple #[]) ∧ OwnS w' base v (sortL ks) ∧ w.grownBy w' v.ownBlock := by
  rcases h.2 with ⟨rfl, h0⟩ | ⟨g, cap, cur, rfl, hb, hg, h1, h2, h3, h4⟩
  · obtain rfl : ks = [] := List.eq_nil_of_length_eq_zero h0
    refine (Tryz.slices_Sort_string_none none 0 w).mono ?_
    rintro e w' ⟨rfl, rfl⟩
    have e0 : sortL [] = [] := by simp [sortL]
    rw [e0]
    exact ⟨rfl, World.ownsRow_nil _ _ _ _, gb_refl _ _⟩
  · have hl : (ks.map toL).length = ks.length := by simp
    have h4' : cur.toList.take (ks.map toL).length = (ks.map toL).map encStr := by
      rw [hl, ← enc_map']; simpa using h4
    have hc := Tryz.slices_Sort_string g 0 cap (ks.map toL) w (holds_of_block hg h4') (lt_of_heap hg) (by rw [hl]; omega)
    rw [hl] at hc
    refine hc.mono ?_
    rintro e w' ⟨rfl, q, os, rfl⟩
    refine ⟨rfl, ?_, grownBy_sorted _⟩
    have := ownsRow_sorted (n := q) (os := os) (ss := ks.map toL) (ts := (ks.map toL).mergeSort fun x y => decide (x ≤ y)) (by simp) hb hg (by rw [hl]; exact h1) h2 h3
    unfold OwnS
    rw [sortL_length]
    unfold sortL
    rw [enc_map]
    rw [hl] at this
    exact this
theorem compactS_calls (base : Nat) (v : Value) (ks : List ByteArray) (w : World) (h : OwnS w base v ks) (hn : ks.length ≤ 1000000) :
    Calls Tryz.prog 110 #[v] w fun e w' => ∃ v', e = .returned v' ∧ OwnS w' base v' (compactL ks) ∧ w.grownBy w' v.ownBlock ∧ v'.ownBlock = v.ownBlock := by
  rcases h.2 with ⟨rfl, h0⟩ | ⟨g, cap, cur, rfl, hb, hg, h1, h2, h3, h4⟩
  · obtain rfl : ks = [] := List.eq_nil_of_length_eq_zero h0
    refine (Tryz.slices_Compact_string_empty none 0 w).mono ?_
    rintro e w' ⟨rfl, rfl⟩
    exact ⟨_, rfl, World.ownsRow_nil _ _ _ _, gb_refl _ _, rfl⟩
  · have hl : (ks.map toL).length = ks.length := by simp
    have h4' : cur.toList.take (ks.map toL).length = (ks.map toL).map encStr := by
      rw [hl, ← enc_map']; simpa using h4
    have hc := Tryz.slices_Compact_string g 0 cap (ks.map toL) w (holds_of_block hg h4') (by rw [hl]; omega) (by rw [hl]; exact h1)
    rw [hl] at hc
    refine hc.mono ?_
    rintro e w' ⟨rfl, q, rfl⟩
    have hle : (Lib.compact (ks.map toL)).length ≤ ks.length := by have := compact_le (ks.map toL); rwa [hl] at this
    have hgr := grownBy_sorted (w := w) (g := g) (n := q) (os := #[]) (Lib.compact (ks.map toL) ++ List.replicate (ks.length - (Lib.compact (ks.map toL)).length) []).toArray
    have hhs := heap_sorted (n := q) (os := #[]) (Lib.compact (ks.map toL) ++ List.replicate (ks.length - (Lib.compact (ks.map toL)).length) []).toArray hg
    rw [grow_empty] at hgr hhs
    refine ⟨_, rfl, ⟨by simp, .inr ⟨g, cap, _, ?_, hb, hhs, ?_, h2, by simp [putCells, h3], ?_⟩⟩, hgr, rfl⟩
    · simp [compactL]
    · have := compactL_le ks; omega
    · unfold compactL
      rw [enc_map, List.length_map, Nat.mul_one]
      have ht := take_putCells cur (Lib.compact (ks.map toL) ++ List.replicate (ks.length - (Lib.compact (ks.map toL)).length) []) (by simp; omega)
      have := congrArg (List.take (Lib.compact (ks.map toL)).length) ht
      rw [List.take_take, Nat.min_eq_left (by simp)] at this
      rw [this, List.map_append, List.take_left' (by simp)]

def IdxFirstS (p : ByteArray → Bool) (ks : List ByteArray) (w : World) (e : Ending) (w' : World) : Prop :=
  ((e = .returned (.int .i64 (-1)) ∧ ∀ k ∈ ks, p k = false) ∨ ∃ i k, e = .returned (.int .i64 ((i : Nat) : Int)) ∧ ks[i]? = some k ∧ p k = true ∧ ∀ j g, j < i → ks[j]? = some g → p g = false) ∧ Below w.heap.size w w'
set_option maxRecDepth 100000 in
set_option maxHeartbeats 1000000 in
theorem indexSF_calls (g : Nat) (caps : Array Value) (p : ByteArray → Bool) (lo : Nat) (v : Value) (ks : List ByteArray) (w : World) (hv : Strs w lo v ks) (eg : ∀ args w, (callFunc g args).run Tryz.prog w = .ok (.enter g args) w)
    (hp : ∀ (W : World) (k : ByteArray), k ∈ ks → Below w.heap.size w W → Calls Tryz.prog g (#[.string k] ++ caps) W (BoolIs (p k) W)) :
    Calls Tryz.prog 172 #[v, .func (.func g) #[] caps] w (IdxFirstS p ks w) := by
  have Hp := Lib.hid hp
  clear hp
  rcases strs_at hv with ⟨rfl, rfl⟩ | ⟨gg, off, cap, rfl, hlo, hg, hn, hcell⟩
  · clear hv
    go_enter Tryz.func172, Tryz.ntmps172
    go_wp2_with fail
    refine wp_loop_rounds 1 ?_
    rw [rounds_succ]
    go_wp2_with fail
    go_ret
    exact ⟨.inl ⟨rfl, by simp⟩, Below.refl _ _⟩
  · have Hc := Lib.hid hcell
    clear hv hcell
    go_enter Tryz.func172, Tryz.ntmps172
    go_wp2_with fail
    go_loopw [8] (fun i wr => ∃ k : Nat, k ≤ ks.length ∧ i = .int .i64 k ∧ Hid (∀ j g, j < k → ks[j]? = some g → p g = false) ∧ Below w.heap.size w wr) (fun i _ => ks.length - (intOf i).toNat)
    case atStart => exact ⟨0, Nat.zero_le _, rfl, Lib.hid fun _ _ h => by omega, Below.refl _ _⟩
    case round =>
      obtain ⟨k, hk, rfl, H0, hb⟩ := hrel
      by_cases hlt : k < ks.length
      · obtain ⟨f, hf⟩ : ∃ f, ks[k]? = some f := ⟨ks[k], List.getElem?_eq_getElem hlt⟩
        have g0 := below_cell hb (Hc.out k f hf)
        have Hf := Lib.hid hf
        clear hf
        go_wp2_with fail
        refine (Hp.out _ f (List.mem_of_getElem? Hf.out) hb).mono ?_
        rintro e w1 ⟨rfl, hb1⟩
        have hb2 := below_step hb hb1
        clear g0
        cases hpf : p f
        · have H1 : Hid (∀ j g, j < k + 1 → ks[j]? = some g → p g = false) := Lib.hid fun j g hj hg' => by
            rcases Nat.lt_succ_iff_lt_or_eq.1 hj with h | rfl
            · exact H0.out j g h hg'
            · rw [Hf.out] at hg'; cases hg'; exact hpf
          clear hpf
          go_wp2_with fail
          go_roundw
          case rel => exact ⟨k + 1, by omega, by go_num, H1, hb2⟩
          case measure => simp [intOf]; omega
        · have Hq := Lib.hid hpf
          clear hpf
          go_wp2_with fail
          go_ret
          exact ⟨.inr ⟨k, f, rfl, Hf.out, Hq.out, H0.out⟩, hb2⟩
      · obtain rfl : k = ks.length := by omega
        go_wp2_with fail
        go_ret
        refine ⟨.inl ⟨rfl, fun f hf => ?_⟩, hb⟩
        obtain ⟨i, hi⟩ := List.getElem?_of_mem hf
        exact H0.out i f (List.getElem?_eq_some_iff.1 hi).1 hi
theorem zero_str (w : World) : (zeroValue 9).run Tryz.prog w = .ok (.string ⟨#[]⟩) w := by kernel_rfl
theorem filter_take_firstS {α : Type} {p : α → Bool} {fs : List α} {i : Nat} {f : α} (hf : fs[i]? = some f) (hpf : p f = true) (h0 : ∀ j g, j < i → fs[j]? = some g → p g = false) : (fs.take (i + 1)).filter (fun g => !p g) = fs.take i := by
  have hi := (List.getElem?_eq_some_iff.1 hf).1
  have e : fs.take (i + 1) = fs.take i ++ [f] := by
    rw [List.take_succ_eq_append_getElem hi, (List.getElem?_eq_some_iff.1 hf).2]
  rw [e, List.filter_append]
  simp only [List.filter_cons, hpf, Bool.not_true, Bool.false_eq_true, if_false, List.filter_nil, List.append_nil]
  rw [List.filter_eq_self]
  intro g hg
  obtain ⟨j, hj⟩ := List.getElem?_of_mem hg
  rw [List.getElem?_take] at hj
  split at hj
  · rename_i hji
    rw [h0 j g hji hj]; rfl
  · cases hj
theorem filter_snocS {α : Type} (p : α → Bool) {l : List α} {k : Nat} {x : α} (hk : l[k]? = some x) : (l.take (k + 1)).filter p = (l.take k).filter p ++ (if p x then [x] else []) := by
  have hlt : k < l.length := (List.getElem?_eq_some_iff.1 hk).1
  have e : l.take (k + 1) = l.take k ++ [x] := by
    rw [List.take_succ_eq_append_getElem hlt, (List.getElem?_eq_some_iff.1 hk).2]
  rw [e, List.filter_append]
  cases hp : p x <;> simp [hp]
abbrev sRow (k : ByteArray) : List Value := [.string k]
theorem s_cell {w : World} {g off i : Nat} {ks : List ByteArray} {k : ByteArray} (h : RowsAt w 9 g off 1 (ks.map sRow)) (hk : ks[i]? = some k) : w.cell? ⟨g, off + i, none⟩ = some (.string k) := by
  have hr : (ks.map sRow)[i]? = some (sRow k) := by simp [hk]
  have := h.cell hr (j := 0) rfl
  simpa using this
theorem s_set {w : World} {g off i : Nat} {ks : List ByteArray} {k0 : ByteArray} (h : RowsAt w 9 g off 1 (ks.map sRow)) (hk : ks[i]? = some k0) (k : ByteArray) : RowsAt (w.setCell ⟨g, off + i, none⟩ (.string k)) 9 g off 1 ((ks.set i k).map sRow) := by
  have := h.set (i := i) (f := 0) (row := sRow k0) (by simp [hk]) (by decide) (.string k)
  rw [List.map_set]
  simpa using this
/-- What striking some out leaves. -/
def LeftS (p : ByteArray → Bool) (lo : Nat) (ks : List ByteArray) (w : World) (row : Option Nat) (e : Ending) (w' : World) : Prop := ∃ v', e = .returned v' ∧ Strs w' lo v' (ks.filter fun k => !p k) ∧ w.grownBy w' row
set_option maxRecDepth 100000 in
set_option maxHeartbeats 4000000 in
theorem deleteS_calls (G : Nat) (caps : Array Value) (p : ByteArray → Bool) (lo g off cap : Nat) (ks : List ByteArray) (w : World) (hv : RowsAt w 9 g off 1 (ks.map sRow)) (hn : ks.length ≤ 1000000) (hcap : ks.length ≤ cap) (hl : lo ≤ g) (eg : ∀ args w, (callFunc G args).run Tryz.prog w = .ok (.enter G args) w)
    (hp : ∀ (W : World) (k : ByteArray), k ∈ ks → w.grownBy W (some g) → Calls Tryz.prog G (#[.string k] ++ caps) W (BoolIs (p k) W)) :
    Calls Tryz.prog 109 #[.slice (some ⟨g, off, none⟩) ks.length cap, .func (.func G) #[] caps] w (LeftS p lo ks w (some g)) := by
  have HF := Lib.hid (show ∀ (ks' : List ByteArray) (w' : World) (c : Nat), RowsAt w' 9 g off 1 (ks'.map sRow) → ks'.length ≤ 1000000 → ks'.length ≤ c → Strs w' lo (.slice (some ⟨g, off, none⟩) ks'.length c) ks' from fun ks' w' c h hn hc => by
    have := h.rows (cap := c) (by simpa using hn) hl (by simpa using hc)
    simpa [Strs] using this)
  have Hp := Lib.hid hp
  have C := Lib.hid (indexSF_calls G caps p lo _ ks w (HF.out ks w cap hv hn hcap) eg fun W f hm hb => Hp.out W f hm (gb_below hb _))
  clear hp
  obtain ⟨n, hnn⟩ : ∃ n, ks.length = n := ⟨_, rfl⟩
  have HN := Lib.hid hnn
  rw [hnn] at hn hcap C ⊢
  clear hnn
  go_enter Tryz.func109, Tryz.ntmps109
  go_wp2_with fail
  refine C.out.mono ?_
  rintro e w1 ⟨he, hb1⟩
  rcases he with ⟨rfl, hnone⟩ | ⟨i, f0, rfl, hf0, hpf0, h0⟩
  · have Hall := Lib.hid (show (ks.filter fun f => !p f) = ks from List.filter_eq_self.2 fun f hf => by rw [hnone f hf]; rfl)
    clear hnone C
    go_wp2_with fail
    go_ret
    refine ⟨_, rfl, ?_, gb_below hb1 _⟩
    rw [Hall.out, ← HN.out]
    exact HF.out ks w1 cap (hv.below hb1) (by have := HN.out; omega) (by have := HN.out; omega)
  · have hi : i < n := by rw [← HN.out]; exact (List.getElem?_eq_some_iff.1 hf0).1
    have Hstart := Lib.hid (filter_take_firstS hf0 hpf0 h0)
    have hne : ((i : Int) == -1) = false := by rw [beq_eq_false_iff_ne]; omega
    have hv1 := hv.below hb1
    clear hf0 hpf0 h0 C hv
    go_wp2_with fail
    go_loopw [5, 6] (fun a b wr => ∃ (i j : Nat) (fs' : List ByteArray), i < j ∧ j ≤ n ∧ a = .int .i64 i ∧ b = .int .i64 j ∧ fs'.length = n ∧ RowsAt wr 9 g off 1 (fs'.map sRow) ∧ w.grownBy wr (some g) ∧ Hid (fs'.take i = (ks.take j).filter (fun f => !p f)) ∧ Hid (∀ t, j ≤ t → fs'[t]? = ks[t]?)) (fun _ b _ => n - (intOf b).toNat)
    case atStart => exact ⟨i, i + 1, ks, by omega, by omega, rfl, by go_num, HN.out, hv1, gb_below hb1 _, Lib.hid Hstart.out.symm, Lib.hid fun _ _ => rfl⟩
    case round =>
      clear hv1
      obtain ⟨i, j, fs', hij, hj, rfl, rfl, hlen, hr, hgw, HT, HE⟩ := hrel
      by_cases hlt : j < n
      · obtain ⟨f, hf⟩ : ∃ f, fs'[j]? = some f := ⟨_, List.getElem?_eq_getElem (show j < fs'.length by omega)⟩
        obtain ⟨fi, hfi⟩ : ∃ f, fs'[i]? = some f := ⟨_, List.getElem?_eq_getElem (show i < fs'.length by omega)⟩
        have hf' : ks[j]? = some f := by rw [← HE.out j (Nat.le_refl _)]; exact hf
        have Hsn := Lib.hid (filter_snocS (fun f => !p f) hf')
        have Hm := Lib.hid (List.mem_of_getElem? hf')
        have Hfi := Lib.hid hfi
        have a0 := s_cell hr hf
        clear hf hf' hfi
        go_wp2_with fail
        refine (Hp.out _ f Hm.out hgw).mono ?_
        rintro e w2 ⟨rfl, hb2⟩
        have hr2 := hr.below hb2
        have hgW2 := gb_trans hgw (gb_below hb2 (some g))
        cases hpf : p f
        · have p0 := s_cell hr2 Hfi.out
          have f0 := fun o => hr2.free o
          have HT' : Hid ((fs'.set i f).take (i + 1) = (ks.take (j + 1)).filter (fun f => !p f)) := Lib.hid (by
            have hil : i < fs'.length := by omega
            rw [Hsn.out, hpf, ← HT.out, List.take_succ_eq_append_getElem (by simpa using hil)]
            simp [List.take_set_of_le])
          have HE' : Hid (∀ t, j + 1 ≤ t → (fs'.set i f)[t]? = ks[t]?) := Lib.hid fun t ht => by
            rw [List.getElem?_set_ne (by omega)]; exact HE.out t (by omega)
          have hset := Lib.hid (s_set hr2 Hfi.out f)
          have hgs := Lib.hid (gb_trans hgW2 (gb_setCell w2 g (off + i) (.string f)))
          have hw4 : (i : Int) < (n : Int) := by omega
          clear hpf a0 hb2 hgW2 hgw hr hr2
          go_wp2_with fail
          go_roundw
          case rel => exact ⟨i + 1, j + 1, fs'.set i f, by omega, by omega, by go_num, by go_num, by simpa using hlen, hset.out, hgs.out, HT', HE'⟩
          case measure => simp [intOf]; omega
        · have HT' : Hid (fs'.take i = (ks.take (j + 1)).filter (fun f => !p f)) := Lib.hid (by rw [Hsn.out, hpf, ← HT.out]; simp)
          have HE' : Hid (∀ t, j + 1 ≤ t → fs'[t]? = ks[t]?) := Lib.hid fun t ht => HE.out t (by omega)
          clear hpf
          go_wp2_with fail
          go_roundw
          case rel => exact ⟨i, j + 1, fs', by omega, by omega, rfl, by go_num, hlen, hr2, hgW2, HT', HE'⟩
          case measure => simp [intOf]; omega
      · obtain rfl : j = n := by omega
        have Hfin := Lib.hid (show fs'.take i = ks.filter (fun f => !p f) by rw [HT.out, ← HN.out, List.take_length])
        obtain ⟨w4, hrun, hr4, hg4⟩ := run_clear_rows (P := Tryz.prog) (t := 35) (ty := 0) (sz := 1) (i := i) (n := j - i) (cap := cap - i) Tryz.underlying35 zero_str rfl (by simp [Value.cells, Value.oneCell']) hr (by simp; omega) (by decide)
        have Hr4 := Lib.hid hr4
        have Hg4 := Lib.hid hg4
        simp only [Nat.mul_one] at hrun
        clear hr4 hg4 hr
        go_wp2_with fail
        go_ret
        refine ⟨_, rfl, ?_, gb_trans hgw Hg4.out⟩
        have h5 := Hr4.out
        rw [← List.map_take] at h5
        have h6 := HF.out (fs'.take i) _ cap h5 (by simp; omega) (by simp; omega)
        have e : (fs'.take i).length = i := by simp; omega
        rw [e, Hfin.out] at h6
        exact h6
set_option maxRecDepth 100000 in
set_option maxHeartbeats 1000000 in
theorem deleteS0_calls (G : Nat) (caps : Array Value) (w : World) (eg : ∀ args w, (callFunc G args).run Tryz.prog w = .ok (.enter G args) w) :
    Calls Tryz.prog 109 #[.slice none 0 0, .func (.func G) #[] caps] w fun e w' => e = .returned (.slice none 0 0) ∧ Below w.heap.size w w' := by
  have C := Lib.hid (indexSF_calls G caps (fun _ => true) 0 (.slice none 0 0) [] w ⟨by simp, by simp, .inl ⟨rfl, rfl⟩⟩ eg (fun W k h => by simp at h))
  go_enter Tryz.func109, Tryz.ntmps109
  go_wp2_with fail
  refine C.out.mono ?_
  rintro e w1 ⟨he, hb1⟩
  rcases he with ⟨rfl, _⟩ | ⟨i, f0, rfl, hf0, _⟩
  · go_wp2_with fail
    go_ret
    exact ⟨rfl, hb1⟩
  · simp at hf0

set_option maxRecDepth 100000 in
set_option maxHeartbeats 1000000 in
theorem idle1_calls (c b n : Nat) (l : List (ByteArray × Int)) (club : ByteArray) (w : World) (hc : w.cell? ⟨c, 0, none⟩ = some (.map (some b))) (hB : Begins w b n l) (hcl : club.size ≤ 1000000) :
    Calls Tryz.prog 111 #[.string club, .pointer (some ⟨c, 0, none⟩)] w (BoolIs (lkA l club).isSome w) := by
  obtain ⟨D, hown, hD⟩ := hB
  have hkey := kL_key hcl
  have HD := Lib.hid (hD club).1
  clear hD
  go_enter Tryz.func111, Tryz.ntmps111
  go_wp2_with (first
    | (at_lookup; refine wpList_lookup_own_ok_int _ rfl _ _ 123 rfl 9 3 .i64 lawS Tryz.underlying123 Tryz.underlying3 (zero_int _) b n D rfl hown _ _ rfl hkey ?_; intro v hat hwc)
    | go_in)
  go_ret
  exact ⟨ret_bool HD.out, Below.refl _ _⟩
end Go.Proofs.YtmjkbmkjnbpgeaaGreatDoor
