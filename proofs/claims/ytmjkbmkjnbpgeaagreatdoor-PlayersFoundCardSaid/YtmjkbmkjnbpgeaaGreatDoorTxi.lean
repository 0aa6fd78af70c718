/- covers: each of some words begins a different one of others. -/
import Derived.Test.YtmjkbmkjnbpgeaaGreatDoorTxg
import Derived.Test.YtmjkbmkjnbpgeaaGreatDoorBk
import Derived.Maps.AppendAt
import Derived.Deep.RegionHeld3
import Derived.Test.YtmjkbmkjnbpgeaaGreatDoorBo
import Derived.Test.YtmjkbmkjnbpgeaaGreatDoorBb
namespace Go.Proofs.YtmjkbmkjnbpgeaaGreatDoor
open Go.RowKit

/-- Does each word begin a different one? -/
def coversB : List ByteArray → List ByteArray → Bool
  | [], _ => true
  | x :: ws, hv => (List.range hv.length).any fun i => Lib.hasPrefix (strAt hv i).data.toList x.data.toList && coversB ws (hv.take i ++ hv.drop (i + 1))
theorem strs_drop {w : World} {lo g off n c l : Nat} {ks : List ByteArray} (h : Strs w lo (.slice (some ⟨g, off, none⟩) n c) ks) (hn : n = ks.length) (hl : l ≤ n) (a : Nat) (ha : l = n ∨ a = off + l) :
    Strs w lo (.slice (some ⟨g, a, none⟩) (n - l) (c - l)) (ks.drop l) := by
  have hf := Rows.fits (show Rows w 9 lo 1 (.slice (some ⟨g, off, none⟩) n c) (ks.map fun k => [.string k]) from h)
  have hr : Rows w 9 lo 1 (.slice (some ⟨g, off, none⟩) n c) (ks.map fun k => [.string k]) := h
  have hsm := hr.small
  rw [List.length_map] at hsm
  rcases hr.shape with ⟨e, _⟩ | ⟨g', off', cap, cur, fr, e, h2, h3, h4⟩
  · cases e
  · simp only [Value.slice.injEq, Option.some.injEq, Addr.mk.injEq, and_true] at e
    obtain ⟨⟨rfl, rfl⟩, _, rfl⟩ := e
    refine ⟨by simp; omega, fun r hr => by obtain ⟨z, _, rfl⟩ := List.mem_map.1 hr; rfl, .inr ⟨g, a, c - l, cur, fr, by simp [hn], ⟨h2.1, by simp; omega⟩, h3, fun i j u hu => ?_⟩⟩
    rcases ha with ha | rfl
    · rw [List.drop_eq_nil_of_le (by omega)] at hu
      simp at hu
    · have := h4 (l + i) j u (by
        simp only [List.getElem?_map, List.getElem?_drop] at hu ⊢
        exact hu)
      simpa [Nat.add_assoc, Nat.mul_one] using this
theorem strs_take {w : World} {lo g off n c l : Nat} {ks : List ByteArray} (h : Strs w lo (.slice (some ⟨g, off, none⟩) n c) ks) (hn : n = ks.length) (hl : l ≤ n) : Strs w lo (.slice (some ⟨g, off, none⟩) l c) (ks.take l) := by
  have hf := Rows.fits (show Rows w 9 lo 1 (.slice (some ⟨g, off, none⟩) n c) (ks.map fun k => [.string k]) from h)
  have hr : Rows w 9 lo 1 (.slice (some ⟨g, off, none⟩) n c) (ks.map fun k => [.string k]) := h
  have hsm := hr.small
  rw [List.length_map] at hsm
  have e0 : (ks.take l).length = l := by simp; omega
  rcases hr.shape with ⟨e, _⟩ | ⟨g', off', cap, cur, fr, e, h2, h3, h4⟩
  · cases e
  · simp only [Value.slice.injEq, Option.some.injEq, Addr.mk.injEq, and_true] at e
    obtain ⟨⟨rfl, rfl⟩, _, rfl⟩ := e
    refine ⟨by simp; omega, fun r hr => by obtain ⟨z, _, rfl⟩ := List.mem_map.1 hr; rfl, .inr ⟨g, off, c, cur, fr, by rw [List.length_map, e0], ⟨h2.1, by rw [List.length_map, e0]; omega⟩, h3, fun i j u hu => ?_⟩⟩
    refine h4 i j u ?_
    simp only [List.getElem?_map, List.getElem?_take] at hu ⊢
    by_cases hil : i < l
    · simpa [hil] using hu
    · simp [hil] at hu
section
variable {P : Program} (w : World)
/-- append at an operation by itself, however few are appended. -/
theorem wp_append_at {o : Oper} {a : Act} {K : Act → World → Prop} {Q : Exit → Act → World → Prop} (s x : Operand) (t : TypeId)
    (ho : o.op = .call { callee := .builtin .append, args := #[s, x], argTypes := #[t, t] })
    (base : Nat) (e : TypeId) (i : TypeInfo) (z : Value) (size bytes : Nat) (ht : P.underlying t = some (.slice e)) (hi : P.info? e = some i) (hz : i.zero = some z)
    (hsize : i.size = size) (hby : i.bytes = bytes) (hzs : z.cells.size = size) (hsz : 0 < size)
    (v : Value) (n : Nat) (xs : List Value) (hs : a.eval s = v) (hown : w.ownsRow base e size v n xs)
    (ad : Addr) (m c : Nat) (news : List Value) (hx : a.eval x = .slice (some ad) m c) (hl : news.length = m * size) (hnews : ∀ j u, news[j]? = some u → w.cell? (ad.add j) = some u) (h1 : ∀ u ∈ news, u.oneCell' = true)
    (h63 : n + m ≤ maxLen) (hbytes : (n + m) * bytes ≤ 140737488355328) (hbase : base ≤ w.heap.size)
    (h : ∀ v' w', w'.ownsRow base e size v' (n + m) (xs ++ news) → w.grownBy w' v.ownBlock → K (a.put o.dst v') w') : Oper.wp P o a w K Q := by
  obtain ⟨v', w', hr, h2, h3, -, -⟩ := run_append_own_at (P := P) w base t o.type e i z size bytes ht hi hz hsize hby hzs hsz v n xs hown ad m c news hl hnews h1 h63 hbytes hbase
  unfold Oper.wp execOp
  simp only [ho, resolve, invoke, builtin, Sem.run_bind, Sem.run_pure, Result.andThen_ok, List.map_toArray, List.map_cons, List.map_nil, hs, hx, hr]
  exact h v' w' h2 h3
end
theorem own_mono' {w : World} {base base' : Nat} {v : Value} {ks : List ByteArray} (h : OwnS w base v ks) (hb : base' ≤ base) : OwnS w base' v ks := by
  refine ⟨h.1, ?_⟩
  rcases h.2 with h | ⟨g, cap, cur, e, hg, rest⟩
  · exact .inl h
  · exact .inr ⟨g, cap, cur, e, Nat.le_trans hb hg, rest⟩
theorem strs_add {w : World} {lo g a n c : Nat} {ks : List ByteArray} (h : Strs w lo (.slice (some ⟨g, a, none⟩) n c) ks) : ∀ j u, (ks.map Value.string)[j]? = some u → w.cell? ((⟨g, a, none⟩ : Addr).add j) = some u := by
  intro j u hu
  rcases strs_at h with ⟨_, rfl⟩ | ⟨g', off', cap, e, _, _, _, hc⟩
  · simp at hu
  · simp only [Value.slice.injEq, Option.some.injEq, Addr.mk.injEq, and_true] at e
    obtain ⟨⟨rfl, rfl⟩, _⟩ := e
    rw [List.getElem?_map] at hu
    obtain ⟨k, hk, rfl⟩ := Option.map_eq_some_iff.1 hu
    have hadd : (⟨g, a, none⟩ : Addr).add j = ⟨g, a + j, none⟩ := by unfold Addr.add; split <;> simp_all
    rw [hadd]
    exact hc j k hk
theorem strs_cellC {w : World} {lo n c i : Nat} {a : Option Addr} {ks : List ByteArray} (h : Strs w lo (.slice a n c) ks) (hi : i < ks.length) : ∃ g off, a = some ⟨g, off, none⟩ ∧ w.cell? ⟨g, off + i, none⟩ = some (.string (strAt ks i)) ∧ lo ≤ g := by
  rcases strs_at h with ⟨_, rfl⟩ | ⟨g, off, cap, e, hlo, _, _, hc⟩
  · simp at hi
  · simp only [Value.slice.injEq] at e
    obtain ⟨k, hk⟩ : ∃ k, ks[i]? = some k := ⟨_, List.getElem?_eq_getElem hi⟩
    exact ⟨g, off, e.1, by rw [hc i k hk, strAt_some hk], hlo⟩
set_option maxRecDepth 100000 in
set_option maxHeartbeats 16000000 in
theorem covers_calls : ∀ (want hv : List ByteArray) (lo lo' : Nat) (vw vh : Value) (w : World), Strs w lo vw want → Strs w lo' vh hv → want.length ≤ 1000 → hv.length ≤ 1000 → (∀ k ∈ hv, k.size ≤ 1000000) → (∀ k ∈ want, k.size ≤ 1000000) →
    Calls Tryz.prog 137 #[vw, vh] w (BoolIs (coversB want hv) w)
  | [], hv, lo, lo', vw, vh, w, hw, hh, _, _, _, _ => by
    obtain ⟨a, c, rfl⟩ := strs_shape' hw
    have hr : coversB [] hv = true := rfl
    rw [hr]
    clear hw hh hr
    go_enter Tryz.func137, Tryz.ntmps137
    go_wp2_with fail
    go_ret
    exact ⟨rfl, Below.refl _ _⟩
  | x :: ws, hv, lo, lo', vw, vh, w, hw, hh, hwn, hhn, hsz, hsw => by
    obtain ⟨i0, hi, hz0, hz1, hz2⟩ := info_parts info_str
    obtain ⟨ha, hc, rfl⟩ := strs_shape' hh
    rcases strs_at hw with ⟨_, h⟩ | ⟨g, off, cw, rfl, _, hgl, _, hcell⟩
    · cases h
    have x0 := hcell 0 x rfl
    rw [Nat.add_zero] at x0
    have hfw := Rows.fits (show Rows w 9 lo 1 (.slice (some ⟨g, off, none⟩) (x :: ws).length cw) ((x :: ws).map fun k => [.string k]) from hw)
    have HW := Lib.hid hw
    have HH := Lib.hid hh
    have HR := Lib.hid (show coversB (x :: ws) hv = (List.range hv.length).any fun i => Lib.hasPrefix (strAt hv i).data.toList x.data.toList && coversB ws (hv.take i ++ hv.drop (i + 1)) from rfl)
    have IH := Lib.hid (covers_calls ws)
    have HSW := Lib.hid hsw
    have HSZ := Lib.hid hsz
    generalize coversB (x :: ws) hv = R at HR ⊢
    simp only [List.length_cons] at hwn hfw HW ⊢
    clear hw hh hcell hsw hsz
    go_enter Tryz.func137, Tryz.ntmps137
    go_wp2_with fail
    go_loopw [12] (fun i wr => ∃ (k : Nat), i = .int .i64 k ∧ k ≤ hv.length ∧ Hid (∀ j, j < k → (Lib.hasPrefix (strAt hv j).data.toList x.data.toList && coversB ws (hv.take j ++ hv.drop (j + 1))) = false) ∧ Below w.heap.size w wr) (fun i _ => hv.length - (intOf i).toNat)
    case atStart => exact ⟨0, rfl, Nat.zero_le _, Lib.hid fun j hj => by omega, Below.refl _ _⟩
    case round =>
      obtain ⟨k, rfl, hk, Hno, hb⟩ := hrel
      by_cases hlt : k < hv.length
      · have HH1 := Lib.hid (HH.out.below hb)
        have HW1 := Lib.hid (HW.out.below hb)
        obtain ⟨gh, oh, rfl, y0, -⟩ := strs_cellC HH1.out hlt
        have hfh := Rows.fits (show Rows wr 9 lo' 1 (.slice (some ⟨gh, oh, none⟩) hv.length hc) (hv.map fun k => [.string k]) from HH1.out)
        have x1 := below_cell hb x0
        have hys := strAt_mem' HSZ.out k
        have Hstep := Lib.hid (show (Lib.hasPrefix (strAt hv k).data.toList x.data.toList && coversB ws (hv.take k ++ hv.drop (k + 1))) = true → R = true from fun h => by
          rw [HR.out, List.any_eq_true]
          exact ⟨k, List.mem_range.2 hlt, h⟩)
        have Hnext := Lib.hid (show (Lib.hasPrefix (strAt hv k).data.toList x.data.toList && coversB ws (hv.take k ++ hv.drop (k + 1))) = false → Hid (∀ j, j < k + 1 → (Lib.hasPrefix (strAt hv j).data.toList x.data.toList && coversB ws (hv.take j ++ hv.drop (j + 1))) = false) from fun h => Lib.hid fun j hj => by
          rcases Nat.lt_succ_iff_lt_or_eq.1 hj with h' | rfl
          · exact Hno.out j h'
          · exact h)
        have CP := Lib.hid (fun w' => Tryz.strings_HasPrefix (strAt hv k) x w')
        have HRs := Lib.hid (show ∀ w', Below wr.heap.size wr w' → Strs w' lo (.slice (some ⟨g, off, none⟩) (ws.length + 1) cw) (x :: ws) ∧ Strs w' lo' (.slice (some ⟨gh, oh, none⟩) hv.length hc) hv from fun w' h => ⟨HW1.out.below h, HH1.out.below h⟩)
        generalize strAt hv k = y at y0 Hstep Hnext CP hys
        generalize hpr : Lib.hasPrefix y.data.toList x.data.toList = b at CP Hstep Hnext
        have HS := Lib.hid (show ∀ w', Below wr.heap.size wr w' → (Below wr.heap.size wr w' ∧ w'.cell? ⟨g, off, none⟩ = some (.string x) ∧ w'.cell? ⟨gh, oh + k, none⟩ = some (.string y)) from fun w' h => ⟨h, below_cell h x1, below_cell h y0⟩)
        have hb0 := (Below.refl wr.heap.size wr).drew
        clear hpr HH1 HW1
        cases b
        · have Hn := Hnext.out rfl
          go_upto_region 6 with fail
          clear x1 y0
          refine wp_region_held_drew (S := fun w' => Below wr.heap.size wr w' ∧ w'.cell? ⟨g, off, none⟩ = some (.string x) ∧ w'.cell? ⟨gh, oh + k, none⟩ = some (.string y)) (by kernel_rfl) ?_ (fun hHeld => ?_)
          · (exact HS.out _ (by first | assumption | exact hHeld.1 | exact below_step hHeld.1 (by assumption) | exact below_step hHeld.1 (below_alloc _ _)))
          refine take_at 0 17 (v := ?_) rfl rfl (by kernel_rfl) (by kernel_rfl) (by kernel_rfl) (fun _ _ _ h => h) (by rfl) ?y0n (by assumption) ?r0n
          case y0n =>
            intro w hSw
            try dsimp only at hSw
            go_simp
            try with_reducible rfl
          simp only [List.set_cons_zero, List.set_cons_succ]
          refine take_at 1 18 (v := ?_) rfl rfl (by kernel_rfl) (by kernel_rfl) (by kernel_rfl) (fun _ _ _ h => h) (by rfl) ?y1n (by assumption) ?r1n
          case y1n =>
            intro w hSw
            try dsimp only at hSw
            go_simp
            try with_reducible rfl
          simp only [List.set_cons_zero, List.set_cons_succ]
          refine take_at 2 19 (v := ?_) rfl rfl (by kernel_rfl) (by kernel_rfl) (by kernel_rfl) (fun _ _ _ h => h) (by rfl) ?y2n (by assumption) ?r2n
          case y2n =>
            intro w hSw
            try dsimp only at hSw
            go_simp
            try with_reducible rfl
          simp only [List.set_cons_zero, List.set_cons_succ]
          refine take_at 3 20 (v := ?_) rfl rfl (by kernel_rfl) (by kernel_rfl) (by kernel_rfl) (fun _ _ _ h => h) (by rfl) ?y3n (by assumption) ?r3n
          case y3n =>
            intro w hSw
            try dsimp only at hSw
            go_simp
            try with_reducible rfl
          simp only [List.set_cons_zero, List.set_cons_succ]
          refine run_at 4 rfl (by kernel_rfl) (by rfl) (fun K hK => ?_)
          go_simp
          refine (CP.out _).mono ?_
          rintro e w' ⟨rfl, rfl⟩
          go_wp2_with fail
          refine hK.out _ _ ?_ (fun hHeld => ?_)
          · (exact HS.out _ (by first | assumption | exact hHeld.1 | exact below_step hHeld.1 (by assumption) | exact below_step hHeld.1 (below_alloc _ _)))
          clear hK K
          try simp only [Act.put, List.setIfInBounds_toArray, List.set_cons_zero, List.set_cons_succ]
          refine take_at 5 22 (v := ?_) rfl rfl (by kernel_rfl) (by kernel_rfl) (by kernel_rfl) (fun _ _ _ h => h) (by rfl) ?y5n (by assumption) ?r5n
          case y5n =>
            intro w hSw
            try dsimp only at hSw
            go_simp
            try with_reducible rfl
          simp only [List.set_cons_zero, List.set_cons_succ]
          refine skip_at 6 23 rfl rfl (by kernel_rfl) (by kernel_rfl) (by kernel_rfl) (fun _ _ _ h => h) (by rfl) (by assumption) ?_
          simp only [List.set_cons_zero, List.set_cons_succ]
          refine skip_at 7 24 rfl rfl (by kernel_rfl) (by kernel_rfl) (by kernel_rfl) (fun _ _ _ h => h) (by rfl) (by assumption) ?_
          simp only [List.set_cons_zero, List.set_cons_succ]
          refine skip_at 8 25 rfl rfl (by kernel_rfl) (by kernel_rfl) (by kernel_rfl) (fun _ _ _ h => h) (by rfl) (by assumption) ?_
          simp only [List.set_cons_zero, List.set_cons_succ]
          refine skip_at 9 26 rfl rfl (by kernel_rfl) (by kernel_rfl) (by kernel_rfl) (fun _ _ _ h => h) (by rfl) (by assumption) ?_
          simp only [List.set_cons_zero, List.set_cons_succ]
          refine skip_at 10 27 rfl rfl (by kernel_rfl) (by kernel_rfl) (by kernel_rfl) (fun _ _ _ h => h) (by rfl) (by assumption) ?_
          simp only [List.set_cons_zero, List.set_cons_succ]
          refine skip_at 11 28 rfl rfl (by kernel_rfl) (by kernel_rfl) (by kernel_rfl) (fun _ _ _ h => h) (by rfl) (by assumption) ?_
          simp only [List.set_cons_zero, List.set_cons_succ]
          refine skip_at 12 29 rfl rfl (by kernel_rfl) (by kernel_rfl) (by kernel_rfl) (fun _ _ _ h => h) (by rfl) (by assumption) ?_
          simp only [List.set_cons_zero, List.set_cons_succ]
          refine skip_at 13 30 rfl rfl (by kernel_rfl) (by kernel_rfl) (by kernel_rfl) (fun _ _ _ h => h) (by rfl) (by assumption) ?_
          simp only [List.set_cons_zero, List.set_cons_succ]
          refine skip_at 14 31 rfl rfl (by kernel_rfl) (by kernel_rfl) (by kernel_rfl) (fun _ _ _ h => h) (by rfl) (by assumption) ?_
          simp only [List.set_cons_zero, List.set_cons_succ]
          refine skip_at 15 32 rfl rfl (by kernel_rfl) (by kernel_rfl) (by kernel_rfl) (fun _ _ _ h => h) (by rfl) (by assumption) ?_
          simp only [List.set_cons_zero, List.set_cons_succ]
          refine skip_at 16 33 rfl rfl (by kernel_rfl) (by kernel_rfl) (by kernel_rfl) (fun _ _ _ h => h) (by rfl) (by assumption) ?_
          simp only [List.set_cons_zero, List.set_cons_succ]
          refine skip_at 17 34 rfl rfl (by kernel_rfl) (by kernel_rfl) (by kernel_rfl) (fun _ _ _ h => h) (by rfl) (by assumption) ?_
          simp only [List.set_cons_zero, List.set_cons_succ]
          refine take_at 18 35 (v := ?_) rfl rfl (by kernel_rfl) (by kernel_rfl) (by kernel_rfl) (fun _ _ _ h => h) (by rfl) ?y18n (by assumption) ?r18n
          case y18n =>
            intro w hSw
            try dsimp only at hSw
            go_simp
            try with_reducible rfl
          simp only [List.set_cons_zero, List.set_cons_succ]
          refine wpAnyH_done (by kernel_rfl) ?_ _
          have hbw := hb.trans (hHeld.1.mono hb.size)
          clear hHeld HS Hstep Hnext
          go_wp2_with fail
          go_roundw
          case rel => first | exact ⟨k + 1, by go_num, by omega, Hn, hbw⟩ | ((repeat apply Exists.intro); exact ⟨⟨k + 1, by go_num, by omega, Hn, hbw⟩, rfl⟩)
          case measure => simp [intOf]; omega
        · have x2 : IntKind.i64.wrap ((k : Int) + 1) = ((k + 1 : Nat) : Int) := by rw [IntWalk.i64_in _ (by omega)]; omega
          have hc0 : hc ≠ 0 := by omega
          have i1 : (1 : Int) ≤ (ws.length : Int) + 1 := by omega
          have i2 : k ≤ hc := by omega
          have i3 : k + 1 ≤ hv.length := by omega
          have i4 : ((k + 1 : Nat) : Int) ≤ (hv.length : Int) := by omega
          have i5 : (k : Int) ≤ (hc : Int) := by omega
          have i6 : (k : Int) ≤ (k : Int) + 1 := by omega
          have i7 : (k : Int) + 1 ≤ (hv.length : Int) := by omega
          have i8 : (0 : Int) ≤ (k : Int) + 1 := by omega
          have hl1 : (hv.take k ++ hv.drop (k + 1)).length ≤ 1000 := by simp; omega
          have hl2 : ∀ z ∈ hv.take k ++ hv.drop (k + 1), z.size ≤ 1000000 := fun z hz => by
            rcases List.mem_append.1 hz with h | h
            · exact HSZ.out z (List.mem_of_mem_take h)
            · exact HSZ.out z (List.mem_of_mem_drop h)
          have Hl2 := Lib.hid hl2
          have Hws := Lib.hid (show ∀ z ∈ ws, z.size ≤ 1000000 from fun z hz => HSW.out z (List.mem_cons_of_mem _ hz))
          clear hl2
          by_cases hw1 : cw = 1
          · by_cases hh1 : hc = k + 1
            · subst hw1 hh1
              have HV := Lib.hid (show ∀ w', Below wr.heap.size wr w' → Strs w' lo (.slice (some ⟨g, off, none⟩) ws.length (0)) ws from fun w' h => by have h9 := strs_drop (l := 1) (HRs.out w' h).1 rfl (by omega) (off) (.inl (by omega)); simpa using h9)
              have HT := Lib.hid (show ∀ w', Below wr.heap.size wr w' → Strs w' lo' (.slice (some ⟨gh, oh, none⟩) k (k + 1)) (hv.take k) from fun w' h => strs_take (HRs.out w' h).2 rfl (by omega))
              have HD := Lib.hid (show ∀ w', Below wr.heap.size wr w' → ∀ j u, ((hv.drop (k + 1)).map Value.string)[j]? = some u → w'.cell? ((⟨gh, oh, none⟩ : Addr).add j) = some u from fun w' h => strs_add (strs_drop (HRs.out w' h).2 rfl (by omega) _ (.inl (by omega))))
              have Hfh := Lib.hid hfh
              have Hfw := Lib.hid hfw
              clear hfh hfw
              go_upto_region 6 with fail
              clear x1 y0
              refine wp_region_held_drew (S := fun w' => Below wr.heap.size wr w' ∧ w'.cell? ⟨g, off, none⟩ = some (.string x) ∧ w'.cell? ⟨gh, oh + k, none⟩ = some (.string y)) (by kernel_rfl) ?_ (fun hHeld => ?_)
              · (exact HS.out _ (by first | assumption | exact hHeld.1 | exact below_step hHeld.1 (by assumption) | exact below_step hHeld.1 (below_alloc _ _)))
              refine take_at 0 17 (v := ?_) rfl rfl (by kernel_rfl) (by kernel_rfl) (by kernel_rfl) (fun _ _ _ h => h) (by rfl) ?y0o (by assumption) ?r0o
              case y0o =>
                intro w hSw
                try dsimp only at hSw
                go_simp
                try with_reducible rfl
              simp only [List.set_cons_zero, List.set_cons_succ]
              refine take_at 1 18 (v := ?_) rfl rfl (by kernel_rfl) (by kernel_rfl) (by kernel_rfl) (fun _ _ _ h => h) (by rfl) ?y1o (by assumption) ?r1o
              case y1o =>
                intro w hSw
                try dsimp only at hSw
                go_simp
                try with_reducible rfl
              simp only [List.set_cons_zero, List.set_cons_succ]
              refine take_at 2 19 (v := ?_) rfl rfl (by kernel_rfl) (by kernel_rfl) (by kernel_rfl) (fun _ _ _ h => h) (by rfl) ?y2o (by assumption) ?r2o
              case y2o =>
                intro w hSw
                try dsimp only at hSw
                go_simp
                try with_reducible rfl
              simp only [List.set_cons_zero, List.set_cons_succ]
              refine take_at 3 20 (v := ?_) rfl rfl (by kernel_rfl) (by kernel_rfl) (by kernel_rfl) (fun _ _ _ h => h) (by rfl) ?y3o (by assumption) ?r3o
              case y3o =>
                intro w hSw
                try dsimp only at hSw
                go_simp
                try with_reducible rfl
              simp only [List.set_cons_zero, List.set_cons_succ]
              refine run_at 4 rfl (by kernel_rfl) (by rfl) (fun K hK => ?_)
              go_simp
              refine (CP.out _).mono ?_
              rintro e w' ⟨rfl, rfl⟩
              go_wp2_with fail
              refine hK.out _ _ ?_ (fun hHeld => ?_)
              · (exact HS.out _ (by first | assumption | exact hHeld.1 | exact below_step hHeld.1 (by assumption) | exact below_step hHeld.1 (below_alloc _ _)))
              clear hK K
              try simp only [Act.put, List.setIfInBounds_toArray, List.set_cons_zero, List.set_cons_succ]
              refine take_at 5 22 (v := ?_) rfl rfl (by kernel_rfl) (by kernel_rfl) (by kernel_rfl) (fun _ _ _ h => h) (by rfl) ?y5o (by assumption) ?r5o
              case y5o =>
                intro w hSw
                try dsimp only at hSw
                go_simp
                try with_reducible rfl
              simp only [List.set_cons_zero, List.set_cons_succ]
              refine take_at 6 23 (v := ?_) rfl rfl (by kernel_rfl) (by kernel_rfl) (by kernel_rfl) (fun _ _ _ h => h) (by rfl) ?y6o (by assumption) ?r6o
              case y6o =>
                intro w hSw
                try dsimp only at hSw
                go_simp
                try with_reducible rfl
              simp only [List.set_cons_zero, List.set_cons_succ]
              refine take_at 7 24 (v := ?_) rfl rfl (by kernel_rfl) (by kernel_rfl) (by kernel_rfl) (fun _ _ _ h => h) (by rfl) ?y7o (by assumption) ?r7o
              case y7o =>
                intro w hSw
                try dsimp only at hSw
                go_simp
                try with_reducible rfl
              simp only [List.set_cons_zero, List.set_cons_succ]
              refine take_at 8 25 (v := ?_) rfl rfl (by kernel_rfl) (by kernel_rfl) (by kernel_rfl) (fun _ _ _ h => h) (by rfl) ?y8o (by assumption) ?r8o
              case y8o =>
                intro w hSw
                try dsimp only at hSw
                go_simp
                try with_reducible rfl
              simp only [List.set_cons_zero, List.set_cons_succ]
              refine take_at 9 26 (v := ?_) rfl rfl (by kernel_rfl) (by kernel_rfl) (by kernel_rfl) (fun _ _ _ h => h) (by rfl) ?y9o (by assumption) ?r9o
              case y9o =>
                intro w hSw
                try dsimp only at hSw
                go_simp
                try with_reducible rfl
              simp only [List.set_cons_zero, List.set_cons_succ]
              refine take_at 10 27 (v := ?_) rfl rfl (by kernel_rfl) (by kernel_rfl) (by kernel_rfl) (fun _ _ _ h => h) (by rfl) ?y10o (by assumption) ?r10o
              case y10o =>
                intro w hSw
                try dsimp only at hSw
                go_simp
                try with_reducible rfl
              simp only [List.set_cons_zero, List.set_cons_succ]
              refine take_at 12 29 (v := ?_) rfl rfl (by kernel_rfl) (by kernel_rfl) (by kernel_rfl) (fun _ _ _ h => h) (by rfl) ?y12o (by assumption) ?r12o
              case y12o =>
                intro w hSw
                try dsimp only at hSw
                go_simp
                try with_reducible rfl
              simp only [List.set_cons_zero, List.set_cons_succ]
              refine take_at 13 30 (v := ?_) rfl rfl (by kernel_rfl) (by kernel_rfl) (by kernel_rfl) (fun _ _ _ h => h) (by rfl) ?y13o (by assumption) ?r13o
              case y13o =>
                intro w hSw
                try dsimp only at hSw
                go_simp
                try with_reducible rfl
              simp only [List.set_cons_zero, List.set_cons_succ]
              refine take_at 14 31 (v := ?_) rfl rfl (by kernel_rfl) (by kernel_rfl) (by kernel_rfl) (fun _ _ _ h => h) (by rfl) ?y14o (by assumption) ?r14o
              case y14o =>
                intro w hSw
                try dsimp only at hSw
                go_simp
                try with_reducible rfl
              simp only [List.set_cons_zero, List.set_cons_succ]
              refine take_at 15 32 (v := ?_) rfl rfl (by kernel_rfl) (by kernel_rfl) (by kernel_rfl) (fun _ _ _ h => h) (by rfl) ?y15o (by assumption) ?r15o
              case y15o =>
                intro w hSw
                try dsimp only at hSw
                go_simp
                try with_reducible rfl
              simp only [List.set_cons_zero, List.set_cons_succ]
              refine run_at 11 rfl (by kernel_rfl) (by rfl) (fun K hK => ?_)
              go_simp
              refine (clone_calls lo' _ (hv.take k) _ (by exact HT.out _ hHeld.1)).mono ?_
              rintro e w' ⟨v2, hv2, rfl, hb2⟩
              have hbk := below_step hHeld.1 hb2
              have hown2 := own_mono' hv2 (show wr.heap.size ≤ _ from hHeld.1.size)
              obtain ⟨va, vc, hv2e⟩ := owns_shape hv2
              rw [show (hv.take k).length = k by simp; omega] at hv2e
              subst hv2e
              go_wp2_with fail
              refine hK.out _ _ ?_ (fun hHeld => ?_)
              · (exact HS.out _ (by first | assumption | exact hHeld.1 | exact below_step hHeld.1 (by assumption) | exact below_step hHeld.1 (below_alloc _ _)))
              clear hK K
              try simp only [Act.put, List.setIfInBounds_toArray, List.set_cons_zero, List.set_cons_succ]
              refine run_at 16 rfl (by kernel_rfl) (by rfl) (fun K hK => ?_)
              refine wp_append_at w' (Operand.tmp 28) (Operand.tmp 32) 35 rfl wr.heap.size 9 i0 (.string ⟨#[]⟩) 1 16 Tryz.underlying35 hi hz0 hz1 hz2 rfl (by decide) _ _ _ rfl hown2 ⟨gh, oh, none⟩ (hv.length - (k + 1)) (0) ((hv.drop (k + 1)).map Value.string) rfl (by simp) (HD.out _ hbk) (by intro u hu; obtain ⟨z, _, rfl⟩ := List.mem_map.1 hu; rfl) (by unfold maxLen; simp; omega) (by simp; omega) hbk.size ?_
              intro v3 w3 hown3 hg3
              have hown4 : OwnS w3 wr.heap.size v3 (hv.take k ++ hv.drop (k + 1)) := by unfold OwnS; simpa [List.length_append, List.map_append] using hown3
              have hb4 : Below wr.heap.size wr w3 := hbk.grown hg3 hbk.size fun r hr => (own_block hown2 r hr).1
              have hS4 := Lib.hid (strs_of_owns hown4 (by simp; omega))
              clear hown3 hg3 hown2 hown4 hv2
              refine hK.out _ _ ?_ (fun hHeld => ?_)
              · (exact HS.out _ (by first | assumption | exact hHeld.1 | exact below_step hHeld.1 (by assumption) | exact below_step hHeld.1 (below_alloc _ _)))
              clear hK K
              try simp only [Act.put, List.setIfInBounds_toArray]
              refine run_at 17 rfl (by kernel_rfl) (by rfl) (fun K hK => ?_)
              go_simp
              refine (IH.out _ lo wr.heap.size _ _ _ (HV.out _ hHeld.1) hS4.out (by omega) (by simp; omega) Hl2.out Hws.out).mono ?_
              rintro e w5 ⟨rfl, hb5⟩
              have hb6 := below_step hb4 hb5
              go_wp2_with fail
              refine hK.out _ _ ?_ (fun hHeld => ?_)
              · (exact HS.out _ (by first | assumption | exact hHeld.1 | exact below_step hHeld.1 (by assumption) | exact below_step hHeld.1 (below_alloc _ _)))
              clear hK K
              try simp only [Act.put, List.setIfInBounds_toArray, List.set_cons_zero, List.set_cons_succ]
              refine take_at 18 35 (v := ?_) rfl rfl (by kernel_rfl) (by kernel_rfl) (by kernel_rfl) (fun _ _ _ h => h) (by rfl) ?y18o (by assumption) ?r18o
              case y18o =>
                intro w hSw
                try dsimp only at hSw
                go_simp
                try with_reducible rfl
              simp only [List.set_cons_zero, List.set_cons_succ]
              refine wpAnyH_done (by kernel_rfl) ?_ _
              have hbw := hb.trans (hb6.mono hb.size)
              clear hHeld HS HV HT HD
              have hre : ∀ r, (true && r) = r := fun r => Bool.true_and r
              cases hcv : coversB ws (hv.take k ++ hv.drop (k + 1))
              · have Hn := Hnext.out (by rw [hcv]; rfl)
                clear Hstep Hnext
                go_wp2_with fail
                go_roundw
                case rel => first | exact ⟨k + 1, by go_num, by omega, Hn, hbw⟩ | ((repeat apply Exists.intro); exact ⟨⟨k + 1, by go_num, by omega, Hn, hbw⟩, rfl⟩)
                case measure => simp [intOf]; omega
              · have hr := Lib.hid (Hstep.out (by rw [hcv]; rfl))
                clear Hstep Hnext
                go_wp2_with fail
                go_ret
                rw [hr.out]
                exact ⟨rfl, hbw⟩
            · subst hw1
              have HV := Lib.hid (show ∀ w', Below wr.heap.size wr w' → Strs w' lo (.slice (some ⟨g, off, none⟩) ws.length (0)) ws from fun w' h => by have h9 := strs_drop (l := 1) (HRs.out w' h).1 rfl (by omega) (off) (.inl (by omega)); simpa using h9)
              have HT := Lib.hid (show ∀ w', Below wr.heap.size wr w' → Strs w' lo' (.slice (some ⟨gh, oh, none⟩) k (hc)) (hv.take k) from fun w' h => strs_take (HRs.out w' h).2 rfl (by omega))
              have HD := Lib.hid (show ∀ w', Below wr.heap.size wr w' → ∀ j u, ((hv.drop (k + 1)).map Value.string)[j]? = some u → w'.cell? ((⟨gh, oh + (k + 1), none⟩ : Addr).add j) = some u from fun w' h => strs_add (strs_drop (HRs.out w' h).2 rfl (by omega) _ (.inr rfl)))
              have Hfh := Lib.hid hfh
              have Hfw := Lib.hid hfw
              clear hfh hfw
              go_upto_region 6 with fail
              clear x1 y0
              refine wp_region_held_drew (S := fun w' => Below wr.heap.size wr w' ∧ w'.cell? ⟨g, off, none⟩ = some (.string x) ∧ w'.cell? ⟨gh, oh + k, none⟩ = some (.string y)) (by kernel_rfl) ?_ (fun hHeld => ?_)
              · (exact HS.out _ (by first | assumption | exact hHeld.1 | exact below_step hHeld.1 (by assumption) | exact below_step hHeld.1 (below_alloc _ _)))
              refine take_at 0 17 (v := ?_) rfl rfl (by kernel_rfl) (by kernel_rfl) (by kernel_rfl) (fun _ _ _ h => h) (by rfl) ?y0p (by assumption) ?r0p
              case y0p =>
                intro w hSw
                try dsimp only at hSw
                go_simp
                try with_reducible rfl
              simp only [List.set_cons_zero, List.set_cons_succ]
              refine take_at 1 18 (v := ?_) rfl rfl (by kernel_rfl) (by kernel_rfl) (by kernel_rfl) (fun _ _ _ h => h) (by rfl) ?y1p (by assumption) ?r1p
              case y1p =>
                intro w hSw
                try dsimp only at hSw
                go_simp
                try with_reducible rfl
              simp only [List.set_cons_zero, List.set_cons_succ]
              refine take_at 2 19 (v := ?_) rfl rfl (by kernel_rfl) (by kernel_rfl) (by kernel_rfl) (fun _ _ _ h => h) (by rfl) ?y2p (by assumption) ?r2p
              case y2p =>
                intro w hSw
                try dsimp only at hSw
                go_simp
                try with_reducible rfl
              simp only [List.set_cons_zero, List.set_cons_succ]
              refine take_at 3 20 (v := ?_) rfl rfl (by kernel_rfl) (by kernel_rfl) (by kernel_rfl) (fun _ _ _ h => h) (by rfl) ?y3p (by assumption) ?r3p
              case y3p =>
                intro w hSw
                try dsimp only at hSw
                go_simp
                try with_reducible rfl
              simp only [List.set_cons_zero, List.set_cons_succ]
              refine run_at 4 rfl (by kernel_rfl) (by rfl) (fun K hK => ?_)
              go_simp
              refine (CP.out _).mono ?_
              rintro e w' ⟨rfl, rfl⟩
              go_wp2_with fail
              refine hK.out _ _ ?_ (fun hHeld => ?_)
              · (exact HS.out _ (by first | assumption | exact hHeld.1 | exact below_step hHeld.1 (by assumption) | exact below_step hHeld.1 (below_alloc _ _)))
              clear hK K
              try simp only [Act.put, List.setIfInBounds_toArray, List.set_cons_zero, List.set_cons_succ]
              refine take_at 5 22 (v := ?_) rfl rfl (by kernel_rfl) (by kernel_rfl) (by kernel_rfl) (fun _ _ _ h => h) (by rfl) ?y5p (by assumption) ?r5p
              case y5p =>
                intro w hSw
                try dsimp only at hSw
                go_simp
                try with_reducible rfl
              simp only [List.set_cons_zero, List.set_cons_succ]
              refine take_at 6 23 (v := ?_) rfl rfl (by kernel_rfl) (by kernel_rfl) (by kernel_rfl) (fun _ _ _ h => h) (by rfl) ?y6p (by assumption) ?r6p
              case y6p =>
                intro w hSw
                try dsimp only at hSw
                go_simp
                try with_reducible rfl
              simp only [List.set_cons_zero, List.set_cons_succ]
              refine take_at 7 24 (v := ?_) rfl rfl (by kernel_rfl) (by kernel_rfl) (by kernel_rfl) (fun _ _ _ h => h) (by rfl) ?y7p (by assumption) ?r7p
              case y7p =>
                intro w hSw
                try dsimp only at hSw
                go_simp
                try with_reducible rfl
              simp only [List.set_cons_zero, List.set_cons_succ]
              refine take_at 8 25 (v := ?_) rfl rfl (by kernel_rfl) (by kernel_rfl) (by kernel_rfl) (fun _ _ _ h => h) (by rfl) ?y8p (by assumption) ?r8p
              case y8p =>
                intro w hSw
                try dsimp only at hSw
                go_simp
                try with_reducible rfl
              simp only [List.set_cons_zero, List.set_cons_succ]
              refine take_at 9 26 (v := ?_) rfl rfl (by kernel_rfl) (by kernel_rfl) (by kernel_rfl) (fun _ _ _ h => h) (by rfl) ?y9p (by assumption) ?r9p
              case y9p =>
                intro w hSw
                try dsimp only at hSw
                go_simp
                try with_reducible rfl
              simp only [List.set_cons_zero, List.set_cons_succ]
              refine take_at 10 27 (v := ?_) rfl rfl (by kernel_rfl) (by kernel_rfl) (by kernel_rfl) (fun _ _ _ h => h) (by rfl) ?y10p (by assumption) ?r10p
              case y10p =>
                intro w hSw
                try dsimp only at hSw
                go_simp
                try with_reducible rfl
              simp only [List.set_cons_zero, List.set_cons_succ]
              refine take_at 12 29 (v := ?_) rfl rfl (by kernel_rfl) (by kernel_rfl) (by kernel_rfl) (fun _ _ _ h => h) (by rfl) ?y12p (by assumption) ?r12p
              case y12p =>
                intro w hSw
                try dsimp only at hSw
                go_simp
                try with_reducible rfl
              simp only [List.set_cons_zero, List.set_cons_succ]
              refine take_at 13 30 (v := ?_) rfl rfl (by kernel_rfl) (by kernel_rfl) (by kernel_rfl) (fun _ _ _ h => h) (by rfl) ?y13p (by assumption) ?r13p
              case y13p =>
                intro w hSw
                try dsimp only at hSw
                go_simp
                try with_reducible rfl
              simp only [List.set_cons_zero, List.set_cons_succ]
              refine take_at 14 31 (v := ?_) rfl rfl (by kernel_rfl) (by kernel_rfl) (by kernel_rfl) (fun _ _ _ h => h) (by rfl) ?y14p (by assumption) ?r14p
              case y14p =>
                intro w hSw
                try dsimp only at hSw
                go_simp
                try with_reducible rfl
              simp only [List.set_cons_zero, List.set_cons_succ]
              refine take_at 15 32 (v := ?_) rfl rfl (by kernel_rfl) (by kernel_rfl) (by kernel_rfl) (fun _ _ _ h => h) (by rfl) ?y15p (by assumption) ?r15p
              case y15p =>
                intro w hSw
                try dsimp only at hSw
                go_simp
                try with_reducible rfl
              simp only [List.set_cons_zero, List.set_cons_succ]
              refine run_at 11 rfl (by kernel_rfl) (by rfl) (fun K hK => ?_)
              go_simp
              refine (clone_calls lo' _ (hv.take k) _ (by exact HT.out _ hHeld.1)).mono ?_
              rintro e w' ⟨v2, hv2, rfl, hb2⟩
              have hbk := below_step hHeld.1 hb2
              have hown2 := own_mono' hv2 (show wr.heap.size ≤ _ from hHeld.1.size)
              obtain ⟨va, vc, hv2e⟩ := owns_shape hv2
              rw [show (hv.take k).length = k by simp; omega] at hv2e
              subst hv2e
              go_wp2_with fail
              refine hK.out _ _ ?_ (fun hHeld => ?_)
              · (exact HS.out _ (by first | assumption | exact hHeld.1 | exact below_step hHeld.1 (by assumption) | exact below_step hHeld.1 (below_alloc _ _)))
              clear hK K
              try simp only [Act.put, List.setIfInBounds_toArray, List.set_cons_zero, List.set_cons_succ]
              refine run_at 16 rfl (by kernel_rfl) (by rfl) (fun K hK => ?_)
              refine wp_append_at w' (Operand.tmp 28) (Operand.tmp 32) 35 rfl wr.heap.size 9 i0 (.string ⟨#[]⟩) 1 16 Tryz.underlying35 hi hz0 hz1 hz2 rfl (by decide) _ _ _ rfl hown2 ⟨gh, oh + (k + 1), none⟩ (hv.length - (k + 1)) (hc - (k + 1)) ((hv.drop (k + 1)).map Value.string) rfl (by simp) (HD.out _ hbk) (by intro u hu; obtain ⟨z, _, rfl⟩ := List.mem_map.1 hu; rfl) (by unfold maxLen; simp; omega) (by simp; omega) hbk.size ?_
              intro v3 w3 hown3 hg3
              have hown4 : OwnS w3 wr.heap.size v3 (hv.take k ++ hv.drop (k + 1)) := by unfold OwnS; simpa [List.length_append, List.map_append] using hown3
              have hb4 : Below wr.heap.size wr w3 := hbk.grown hg3 hbk.size fun r hr => (own_block hown2 r hr).1
              have hS4 := Lib.hid (strs_of_owns hown4 (by simp; omega))
              clear hown3 hg3 hown2 hown4 hv2
              refine hK.out _ _ ?_ (fun hHeld => ?_)
              · (exact HS.out _ (by first | assumption | exact hHeld.1 | exact below_step hHeld.1 (by assumption) | exact below_step hHeld.1 (below_alloc _ _)))
              clear hK K
              try simp only [Act.put, List.setIfInBounds_toArray]
              refine run_at 17 rfl (by kernel_rfl) (by rfl) (fun K hK => ?_)
              go_simp
              refine (IH.out _ lo wr.heap.size _ _ _ (HV.out _ hHeld.1) hS4.out (by omega) (by simp; omega) Hl2.out Hws.out).mono ?_
              rintro e w5 ⟨rfl, hb5⟩
              have hb6 := below_step hb4 hb5
              go_wp2_with fail
              refine hK.out _ _ ?_ (fun hHeld => ?_)
              · (exact HS.out _ (by first | assumption | exact hHeld.1 | exact below_step hHeld.1 (by assumption) | exact below_step hHeld.1 (below_alloc _ _)))
              clear hK K
              try simp only [Act.put, List.setIfInBounds_toArray, List.set_cons_zero, List.set_cons_succ]
              refine take_at 18 35 (v := ?_) rfl rfl (by kernel_rfl) (by kernel_rfl) (by kernel_rfl) (fun _ _ _ h => h) (by rfl) ?y18p (by assumption) ?r18p
              case y18p =>
                intro w hSw
                try dsimp only at hSw
                go_simp
                try with_reducible rfl
              simp only [List.set_cons_zero, List.set_cons_succ]
              refine wpAnyH_done (by kernel_rfl) ?_ _
              have hbw := hb.trans (hb6.mono hb.size)
              clear hHeld HS HV HT HD
              have hre : ∀ r, (true && r) = r := fun r => Bool.true_and r
              cases hcv : coversB ws (hv.take k ++ hv.drop (k + 1))
              · have Hn := Hnext.out (by rw [hcv]; rfl)
                clear Hstep Hnext
                go_wp2_with fail
                go_roundw
                case rel => first | exact ⟨k + 1, by go_num, by omega, Hn, hbw⟩ | ((repeat apply Exists.intro); exact ⟨⟨k + 1, by go_num, by omega, Hn, hbw⟩, rfl⟩)
                case measure => simp [intOf]; omega
              · have hr := Lib.hid (Hstep.out (by rw [hcv]; rfl))
                clear Hstep Hnext
                go_wp2_with fail
                go_ret
                rw [hr.out]
                exact ⟨rfl, hbw⟩
          · by_cases hh1 : hc = k + 1
            · subst hh1
              have HV := Lib.hid (show ∀ w', Below wr.heap.size wr w' → Strs w' lo (.slice (some ⟨g, off + 1, none⟩) ws.length (cw - 1)) ws from fun w' h => by have h9 := strs_drop (l := 1) (HRs.out w' h).1 rfl (by omega) (off + 1) (.inr rfl); simpa using h9)
              have HT := Lib.hid (show ∀ w', Below wr.heap.size wr w' → Strs w' lo' (.slice (some ⟨gh, oh, none⟩) k (k + 1)) (hv.take k) from fun w' h => strs_take (HRs.out w' h).2 rfl (by omega))
              have HD := Lib.hid (show ∀ w', Below wr.heap.size wr w' → ∀ j u, ((hv.drop (k + 1)).map Value.string)[j]? = some u → w'.cell? ((⟨gh, oh, none⟩ : Addr).add j) = some u from fun w' h => strs_add (strs_drop (HRs.out w' h).2 rfl (by omega) _ (.inl (by omega))))
              have Hfh := Lib.hid hfh
              have Hfw := Lib.hid hfw
              clear hfh hfw
              go_upto_region 6 with fail
              clear x1 y0
              refine wp_region_held_drew (S := fun w' => Below wr.heap.size wr w' ∧ w'.cell? ⟨g, off, none⟩ = some (.string x) ∧ w'.cell? ⟨gh, oh + k, none⟩ = some (.string y)) (by kernel_rfl) ?_ (fun hHeld => ?_)
              · (exact HS.out _ (by first | assumption | exact hHeld.1 | exact below_step hHeld.1 (by assumption) | exact below_step hHeld.1 (below_alloc _ _)))
              refine take_at 0 17 (v := ?_) rfl rfl (by kernel_rfl) (by kernel_rfl) (by kernel_rfl) (fun _ _ _ h => h) (by rfl) ?y0q (by assumption) ?r0q
              case y0q =>
                intro w hSw
                try dsimp only at hSw
                go_simp
                try with_reducible rfl
              simp only [List.set_cons_zero, List.set_cons_succ]
              refine take_at 1 18 (v := ?_) rfl rfl (by kernel_rfl) (by kernel_rfl) (by kernel_rfl) (fun _ _ _ h => h) (by rfl) ?y1q (by assumption) ?r1q
              case y1q =>
                intro w hSw
                try dsimp only at hSw
                go_simp
                try with_reducible rfl
              simp only [List.set_cons_zero, List.set_cons_succ]
              refine take_at 2 19 (v := ?_) rfl rfl (by kernel_rfl) (by kernel_rfl) (by kernel_rfl) (fun _ _ _ h => h) (by rfl) ?y2q (by assumption) ?r2q
              case y2q =>
                intro w hSw
                try dsimp only at hSw
                go_simp
                try with_reducible rfl
              simp only [List.set_cons_zero, List.set_cons_succ]
              refine take_at 3 20 (v := ?_) rfl rfl (by kernel_rfl) (by kernel_rfl) (by kernel_rfl) (fun _ _ _ h => h) (by rfl) ?y3q (by assumption) ?r3q
              case y3q =>
                intro w hSw
                try dsimp only at hSw
                go_simp
                try with_reducible rfl
              simp only [List.set_cons_zero, List.set_cons_succ]
              refine run_at 4 rfl (by kernel_rfl) (by rfl) (fun K hK => ?_)
              go_simp
              refine (CP.out _).mono ?_
              rintro e w' ⟨rfl, rfl⟩
              go_wp2_with fail
              refine hK.out _ _ ?_ (fun hHeld => ?_)
              · (exact HS.out _ (by first | assumption | exact hHeld.1 | exact below_step hHeld.1 (by assumption) | exact below_step hHeld.1 (below_alloc _ _)))
              clear hK K
              try simp only [Act.put, List.setIfInBounds_toArray, List.set_cons_zero, List.set_cons_succ]
              refine take_at 5 22 (v := ?_) rfl rfl (by kernel_rfl) (by kernel_rfl) (by kernel_rfl) (fun _ _ _ h => h) (by rfl) ?y5q (by assumption) ?r5q
              case y5q =>
                intro w hSw
                try dsimp only at hSw
                go_simp
                try with_reducible rfl
              simp only [List.set_cons_zero, List.set_cons_succ]
              refine take_at 6 23 (v := ?_) rfl rfl (by kernel_rfl) (by kernel_rfl) (by kernel_rfl) (fun _ _ _ h => h) (by rfl) ?y6q (by assumption) ?r6q
              case y6q =>
                intro w hSw
                try dsimp only at hSw
                go_simp
                try with_reducible rfl
              simp only [List.set_cons_zero, List.set_cons_succ]
              refine take_at 7 24 (v := ?_) rfl rfl (by kernel_rfl) (by kernel_rfl) (by kernel_rfl) (fun _ _ _ h => h) (by rfl) ?y7q (by assumption) ?r7q
              case y7q =>
                intro w hSw
                try dsimp only at hSw
                go_simp
                try with_reducible rfl
              simp only [List.set_cons_zero, List.set_cons_succ]
              refine take_at 8 25 (v := ?_) rfl rfl (by kernel_rfl) (by kernel_rfl) (by kernel_rfl) (fun _ _ _ h => h) (by rfl) ?y8q (by assumption) ?r8q
              case y8q =>
                intro w hSw
                try dsimp only at hSw
                go_simp
                try with_reducible rfl
              simp only [List.set_cons_zero, List.set_cons_succ]
              refine take_at 9 26 (v := ?_) rfl rfl (by kernel_rfl) (by kernel_rfl) (by kernel_rfl) (fun _ _ _ h => h) (by rfl) ?y9q (by assumption) ?r9q
              case y9q =>
                intro w hSw
                try dsimp only at hSw
                go_simp
                try with_reducible rfl
              simp only [List.set_cons_zero, List.set_cons_succ]
              refine take_at 10 27 (v := ?_) rfl rfl (by kernel_rfl) (by kernel_rfl) (by kernel_rfl) (fun _ _ _ h => h) (by rfl) ?y10q (by assumption) ?r10q
              case y10q =>
                intro w hSw
                try dsimp only at hSw
                go_simp
                try with_reducible rfl
              simp only [List.set_cons_zero, List.set_cons_succ]
              refine take_at 12 29 (v := ?_) rfl rfl (by kernel_rfl) (by kernel_rfl) (by kernel_rfl) (fun _ _ _ h => h) (by rfl) ?y12q (by assumption) ?r12q
              case y12q =>
                intro w hSw
                try dsimp only at hSw
                go_simp
                try with_reducible rfl
              simp only [List.set_cons_zero, List.set_cons_succ]
              refine take_at 13 30 (v := ?_) rfl rfl (by kernel_rfl) (by kernel_rfl) (by kernel_rfl) (fun _ _ _ h => h) (by rfl) ?y13q (by assumption) ?r13q
              case y13q =>
                intro w hSw
                try dsimp only at hSw
                go_simp
                try with_reducible rfl
              simp only [List.set_cons_zero, List.set_cons_succ]
              refine take_at 14 31 (v := ?_) rfl rfl (by kernel_rfl) (by kernel_rfl) (by kernel_rfl) (fun _ _ _ h => h) (by rfl) ?y14q (by assumption) ?r14q
              case y14q =>
                intro w hSw
                try dsimp only at hSw
                go_simp
                try with_reducible rfl
              simp only [List.set_cons_zero, List.set_cons_succ]
              refine take_at 15 32 (v := ?_) rfl rfl (by kernel_rfl) (by kernel_rfl) (by kernel_rfl) (fun _ _ _ h => h) (by rfl) ?y15q (by assumption) ?r15q
              case y15q =>
                intro w hSw
                try dsimp only at hSw
                go_simp
                try with_reducible rfl
              simp only [List.set_cons_zero, List.set_cons_succ]
              refine run_at 11 rfl (by kernel_rfl) (by rfl) (fun K hK => ?_)
              go_simp
              refine (clone_calls lo' _ (hv.take k) _ (by exact HT.out _ hHeld.1)).mono ?_
              rintro e w' ⟨v2, hv2, rfl, hb2⟩
              have hbk := below_step hHeld.1 hb2
              have hown2 := own_mono' hv2 (show wr.heap.size ≤ _ from hHeld.1.size)
              obtain ⟨va, vc, hv2e⟩ := owns_shape hv2
              rw [show (hv.take k).length = k by simp; omega] at hv2e
              subst hv2e
              go_wp2_with fail
              refine hK.out _ _ ?_ (fun hHeld => ?_)
              · (exact HS.out _ (by first | assumption | exact hHeld.1 | exact below_step hHeld.1 (by assumption) | exact below_step hHeld.1 (below_alloc _ _)))
              clear hK K
              try simp only [Act.put, List.setIfInBounds_toArray, List.set_cons_zero, List.set_cons_succ]
              refine run_at 16 rfl (by kernel_rfl) (by rfl) (fun K hK => ?_)
              refine wp_append_at w' (Operand.tmp 28) (Operand.tmp 32) 35 rfl wr.heap.size 9 i0 (.string ⟨#[]⟩) 1 16 Tryz.underlying35 hi hz0 hz1 hz2 rfl (by decide) _ _ _ rfl hown2 ⟨gh, oh, none⟩ (hv.length - (k + 1)) (0) ((hv.drop (k + 1)).map Value.string) rfl (by simp) (HD.out _ hbk) (by intro u hu; obtain ⟨z, _, rfl⟩ := List.mem_map.1 hu; rfl) (by unfold maxLen; simp; omega) (by simp; omega) hbk.size ?_
              intro v3 w3 hown3 hg3
              have hown4 : OwnS w3 wr.heap.size v3 (hv.take k ++ hv.drop (k + 1)) := by unfold OwnS; simpa [List.length_append, List.map_append] using hown3
              have hb4 : Below wr.heap.size wr w3 := hbk.grown hg3 hbk.size fun r hr => (own_block hown2 r hr).1
              have hS4 := Lib.hid (strs_of_owns hown4 (by simp; omega))
              clear hown3 hg3 hown2 hown4 hv2
              refine hK.out _ _ ?_ (fun hHeld => ?_)
              · (exact HS.out _ (by first | assumption | exact hHeld.1 | exact below_step hHeld.1 (by assumption) | exact below_step hHeld.1 (below_alloc _ _)))
              clear hK K
              try simp only [Act.put, List.setIfInBounds_toArray]
              refine run_at 17 rfl (by kernel_rfl) (by rfl) (fun K hK => ?_)
              go_simp
              refine (IH.out _ lo wr.heap.size _ _ _ (HV.out _ hHeld.1) hS4.out (by omega) (by simp; omega) Hl2.out Hws.out).mono ?_
              rintro e w5 ⟨rfl, hb5⟩
              have hb6 := below_step hb4 hb5
              go_wp2_with fail
              refine hK.out _ _ ?_ (fun hHeld => ?_)
              · (exact HS.out _ (by first | assumption | exact hHeld.1 | exact below_step hHeld.1 (by assumption) | exact below_step hHeld.1 (below_alloc _ _)))
              clear hK K
              try simp only [Act.put, List.setIfInBounds_toArray, List.set_cons_zero, List.set_cons_succ]
              refine take_at 18 35 (v := ?_) rfl rfl (by kernel_rfl) (by kernel_rfl) (by kernel_rfl) (fun _ _ _ h => h) (by rfl) ?y18q (by assumption) ?r18q
              case y18q =>
                intro w hSw
                try dsimp only at hSw
                go_simp
                try with_reducible rfl
              simp only [List.set_cons_zero, List.set_cons_succ]
              refine wpAnyH_done (by kernel_rfl) ?_ _
              have hbw := hb.trans (hb6.mono hb.size)
              clear hHeld HS HV HT HD
              have hre : ∀ r, (true && r) = r := fun r => Bool.true_and r
              cases hcv : coversB ws (hv.take k ++ hv.drop (k + 1))
              · have Hn := Hnext.out (by rw [hcv]; rfl)
                clear Hstep Hnext
                go_wp2_with fail
                go_roundw
                case rel => first | exact ⟨k + 1, by go_num, by omega, Hn, hbw⟩ | ((repeat apply Exists.intro); exact ⟨⟨k + 1, by go_num, by omega, Hn, hbw⟩, rfl⟩)
                case measure => simp [intOf]; omega
              · have hr := Lib.hid (Hstep.out (by rw [hcv]; rfl))
                clear Hstep Hnext
                go_wp2_with fail
                go_ret
                rw [hr.out]
                exact ⟨rfl, hbw⟩
            · skip
              have HV := Lib.hid (show ∀ w', Below wr.heap.size wr w' → Strs w' lo (.slice (some ⟨g, off + 1, none⟩) ws.length (cw - 1)) ws from fun w' h => by have h9 := strs_drop (l := 1) (HRs.out w' h).1 rfl (by omega) (off + 1) (.inr rfl); simpa using h9)
              have HT := Lib.hid (show ∀ w', Below wr.heap.size wr w' → Strs w' lo' (.slice (some ⟨gh, oh, none⟩) k (hc)) (hv.take k) from fun w' h => strs_take (HRs.out w' h).2 rfl (by omega))
              have HD := Lib.hid (show ∀ w', Below wr.heap.size wr w' → ∀ j u, ((hv.drop (k + 1)).map Value.string)[j]? = some u → w'.cell? ((⟨gh, oh + (k + 1), none⟩ : Addr).add j) = some u from fun w' h => strs_add (strs_drop (HRs.out w' h).2 rfl (by omega) _ (.inr rfl)))
              have Hfh := Lib.hid hfh
              have Hfw := Lib.hid hfw
              clear hfh hfw
              go_upto_region 6 with fail
              clear x1 y0
              refine wp_region_held_drew (S := fun w' => Below wr.heap.size wr w' ∧ w'.cell? ⟨g, off, none⟩ = some (.string x) ∧ w'.cell? ⟨gh, oh + k, none⟩ = some (.string y)) (by kernel_rfl) ?_ (fun hHeld => ?_)
              · (exact HS.out _ (by first | assumption | exact hHeld.1 | exact below_step hHeld.1 (by assumption) | exact below_step hHeld.1 (below_alloc _ _)))
              refine take_at 0 17 (v := ?_) rfl rfl (by kernel_rfl) (by kernel_rfl) (by kernel_rfl) (fun _ _ _ h => h) (by rfl) ?y0r (by assumption) ?r0r
              case y0r =>
                intro w hSw
                try dsimp only at hSw
                go_simp
                try with_reducible rfl
              simp only [List.set_cons_zero, List.set_cons_succ]
              refine take_at 1 18 (v := ?_) rfl rfl (by kernel_rfl) (by kernel_rfl) (by kernel_rfl) (fun _ _ _ h => h) (by rfl) ?y1r (by assumption) ?r1r
              case y1r =>
                intro w hSw
                try dsimp only at hSw
                go_simp
                try with_reducible rfl
              simp only [List.set_cons_zero, List.set_cons_succ]
              refine take_at 2 19 (v := ?_) rfl rfl (by kernel_rfl) (by kernel_rfl) (by kernel_rfl) (fun _ _ _ h => h) (by rfl) ?y2r (by assumption) ?r2r
              case y2r =>
                intro w hSw
                try dsimp only at hSw
                go_simp
                try with_reducible rfl
              simp only [List.set_cons_zero, List.set_cons_succ]
              refine take_at 3 20 (v := ?_) rfl rfl (by kernel_rfl) (by kernel_rfl) (by kernel_rfl) (fun _ _ _ h => h) (by rfl) ?y3r (by assumption) ?r3r
              case y3r =>
                intro w hSw
                try dsimp only at hSw
                go_simp
                try with_reducible rfl
              simp only [List.set_cons_zero, List.set_cons_succ]
              refine run_at 4 rfl (by kernel_rfl) (by rfl) (fun K hK => ?_)
              go_simp
              refine (CP.out _).mono ?_
              rintro e w' ⟨rfl, rfl⟩
              go_wp2_with fail
              refine hK.out _ _ ?_ (fun hHeld => ?_)
              · (exact HS.out _ (by first | assumption | exact hHeld.1 | exact below_step hHeld.1 (by assumption) | exact below_step hHeld.1 (below_alloc _ _)))
              clear hK K
              try simp only [Act.put, List.setIfInBounds_toArray, List.set_cons_zero, List.set_cons_succ]
              refine take_at 5 22 (v := ?_) rfl rfl (by kernel_rfl) (by kernel_rfl) (by kernel_rfl) (fun _ _ _ h => h) (by rfl) ?y5r (by assumption) ?r5r
              case y5r =>
                intro w hSw
                try dsimp only at hSw
                go_simp
                try with_reducible rfl
              simp only [List.set_cons_zero, List.set_cons_succ]
              refine take_at 6 23 (v := ?_) rfl rfl (by kernel_rfl) (by kernel_rfl) (by kernel_rfl) (fun _ _ _ h => h) (by rfl) ?y6r (by assumption) ?r6r
              case y6r =>
                intro w hSw
                try dsimp only at hSw
                go_simp
                try with_reducible rfl
              simp only [List.set_cons_zero, List.set_cons_succ]
              refine take_at 7 24 (v := ?_) rfl rfl (by kernel_rfl) (by kernel_rfl) (by kernel_rfl) (fun _ _ _ h => h) (by rfl) ?y7r (by assumption) ?r7r
              case y7r =>
                intro w hSw
                try dsimp only at hSw
                go_simp
                try with_reducible rfl
              simp only [List.set_cons_zero, List.set_cons_succ]
              refine take_at 8 25 (v := ?_) rfl rfl (by kernel_rfl) (by kernel_rfl) (by kernel_rfl) (fun _ _ _ h => h) (by rfl) ?y8r (by assumption) ?r8r
              case y8r =>
                intro w hSw
                try dsimp only at hSw
                go_simp
                try with_reducible rfl
              simp only [List.set_cons_zero, List.set_cons_succ]
              refine take_at 9 26 (v := ?_) rfl rfl (by kernel_rfl) (by kernel_rfl) (by kernel_rfl) (fun _ _ _ h => h) (by rfl) ?y9r (by assumption) ?r9r
              case y9r =>
                intro w hSw
                try dsimp only at hSw
                go_simp
                try with_reducible rfl
              simp only [List.set_cons_zero, List.set_cons_succ]
              refine take_at 10 27 (v := ?_) rfl rfl (by kernel_rfl) (by kernel_rfl) (by kernel_rfl) (fun _ _ _ h => h) (by rfl) ?y10r (by assumption) ?r10r
              case y10r =>
                intro w hSw
                try dsimp only at hSw
                go_simp
                try with_reducible rfl
              simp only [List.set_cons_zero, List.set_cons_succ]
              refine take_at 12 29 (v := ?_) rfl rfl (by kernel_rfl) (by kernel_rfl) (by kernel_rfl) (fun _ _ _ h => h) (by rfl) ?y12r (by assumption) ?r12r
              case y12r =>
                intro w hSw
                try dsimp only at hSw
                go_simp
                try with_reducible rfl
              simp only [List.set_cons_zero, List.set_cons_succ]
              refine take_at 13 30 (v := ?_) rfl rfl (by kernel_rfl) (by kernel_rfl) (by kernel_rfl) (fun _ _ _ h => h) (by rfl) ?y13r (by assumption) ?r13r
              case y13r =>
                intro w hSw
                try dsimp only at hSw
                go_simp
                try with_reducible rfl
              simp only [List.set_cons_zero, List.set_cons_succ]
              refine take_at 14 31 (v := ?_) rfl rfl (by kernel_rfl) (by kernel_rfl) (by kernel_rfl) (fun _ _ _ h => h) (by rfl) ?y14r (by assumption) ?r14r
              case y14r =>
                intro w hSw
                try dsimp only at hSw
                go_simp
                try with_reducible rfl
              simp only [List.set_cons_zero, List.set_cons_succ]
              refine take_at 15 32 (v := ?_) rfl rfl (by kernel_rfl) (by kernel_rfl) (by kernel_rfl) (fun _ _ _ h => h) (by rfl) ?y15r (by assumption) ?r15r
              case y15r =>
                intro w hSw
                try dsimp only at hSw
                go_simp
                try with_reducible rfl
              simp only [List.set_cons_zero, List.set_cons_succ]
              refine run_at 11 rfl (by kernel_rfl) (by rfl) (fun K hK => ?_)
              go_simp
              refine (clone_calls lo' _ (hv.take k) _ (by exact HT.out _ hHeld.1)).mono ?_
              rintro e w' ⟨v2, hv2, rfl, hb2⟩
              have hbk := below_step hHeld.1 hb2
              have hown2 := own_mono' hv2 (show wr.heap.size ≤ _ from hHeld.1.size)
              obtain ⟨va, vc, hv2e⟩ := owns_shape hv2
              rw [show (hv.take k).length = k by simp; omega] at hv2e
              subst hv2e
              go_wp2_with fail
              refine hK.out _ _ ?_ (fun hHeld => ?_)
              · (exact HS.out _ (by first | assumption | exact hHeld.1 | exact below_step hHeld.1 (by assumption) | exact below_step hHeld.1 (below_alloc _ _)))
              clear hK K
              try simp only [Act.put, List.setIfInBounds_toArray, List.set_cons_zero, List.set_cons_succ]
              refine run_at 16 rfl (by kernel_rfl) (by rfl) (fun K hK => ?_)
              refine wp_append_at w' (Operand.tmp 28) (Operand.tmp 32) 35 rfl wr.heap.size 9 i0 (.string ⟨#[]⟩) 1 16 Tryz.underlying35 hi hz0 hz1 hz2 rfl (by decide) _ _ _ rfl hown2 ⟨gh, oh + (k + 1), none⟩ (hv.length - (k + 1)) (hc - (k + 1)) ((hv.drop (k + 1)).map Value.string) rfl (by simp) (HD.out _ hbk) (by intro u hu; obtain ⟨z, _, rfl⟩ := List.mem_map.1 hu; rfl) (by unfold maxLen; simp; omega) (by simp; omega) hbk.size ?_
              intro v3 w3 hown3 hg3
              have hown4 : OwnS w3 wr.heap.size v3 (hv.take k ++ hv.drop (k + 1)) := by unfold OwnS; simpa [List.length_append, List.map_append] using hown3
              have hb4 : Below wr.heap.size wr w3 := hbk.grown hg3 hbk.size fun r hr => (own_block hown2 r hr).1
              have hS4 := Lib.hid (strs_of_owns hown4 (by simp; omega))
              clear hown3 hg3 hown2 hown4 hv2
              refine hK.out _ _ ?_ (fun hHeld => ?_)
              · (exact HS.out _ (by first | assumption | exact hHeld.1 | exact below_step hHeld.1 (by assumption) | exact below_step hHeld.1 (below_alloc _ _)))
              clear hK K
              try simp only [Act.put, List.setIfInBounds_toArray]
              refine run_at 17 rfl (by kernel_rfl) (by rfl) (fun K hK => ?_)
              go_simp
              refine (IH.out _ lo wr.heap.size _ _ _ (HV.out _ hHeld.1) hS4.out (by omega) (by simp; omega) Hl2.out Hws.out).mono ?_
              rintro e w5 ⟨rfl, hb5⟩
              have hb6 := below_step hb4 hb5
              go_wp2_with fail
              refine hK.out _ _ ?_ (fun hHeld => ?_)
              · (exact HS.out _ (by first | assumption | exact hHeld.1 | exact below_step hHeld.1 (by assumption) | exact below_step hHeld.1 (below_alloc _ _)))
              clear hK K
              try simp only [Act.put, List.setIfInBounds_toArray, List.set_cons_zero, List.set_cons_succ]
              refine take_at 18 35 (v := ?_) rfl rfl (by kernel_rfl) (by kernel_rfl) (by kernel_rfl) (fun _ _ _ h => h) (by rfl) ?y18r (by assumption) ?r18r
              case y18r =>
                intro w hSw
                try dsimp only at hSw
                go_simp
                try with_reducible rfl
              simp only [List.set_cons_zero, List.set_cons_succ]
              refine wpAnyH_done (by kernel_rfl) ?_ _
              have hbw := hb.trans (hb6.mono hb.size)
              clear hHeld HS HV HT HD
              have hre : ∀ r, (true && r) = r := fun r => Bool.true_and r
              cases hcv : coversB ws (hv.take k ++ hv.drop (k + 1))
              · have Hn := Hnext.out (by rw [hcv]; rfl)
                clear Hstep Hnext
                go_wp2_with fail
                go_roundw
                case rel => first | exact ⟨k + 1, by go_num, by omega, Hn, hbw⟩ | ((repeat apply Exists.intro); exact ⟨⟨k + 1, by go_num, by omega, Hn, hbw⟩, rfl⟩)
                case measure => simp [intOf]; omega
              · have hr := Lib.hid (Hstep.out (by rw [hcv]; rfl))
                clear Hstep Hnext
                go_wp2_with fail
                go_ret
                rw [hr.out]
                exact ⟨rfl, hbw⟩
      · obtain rfl : k = hv.length := by omega
        have hr := Lib.hid (show R = false by
          rw [HR.out, List.any_eq_false]
          intro j hj
          rw [Hno.out j (List.mem_range.1 hj)]
          simp)
        clear HR Hno
        go_wp2_with fail
        go_ret
        rw [hr.out]
        exact ⟨rfl, hb⟩
termination_by want => want.length
end Go.Proofs.YtmjkbmkjnbpgeaaGreatDoor
