/- Players copied: slices.Clone and the program's clone. -/
import Derived.Test.YtmjkbmkjnbpgeaaGreatDoorApj
import Derived.Test.YtmjkbmkjnbpgeaaGreatDoorBb
namespace Go.Proofs.YtmjkbmkjnbpgeaaGreatDoor
open Go.RowKit

theorem flat_len {sz : Nat} : ∀ (rows : List (List Value)), (∀ r ∈ rows, r.length = sz) → rows.flatten.length = rows.length * sz
  | [], _ => by simp
  | r :: rs, h => by
    rw [List.flatten_cons, List.length_append, flat_len rs (fun x hx => h x (List.mem_cons_of_mem _ hx)), h r (List.mem_cons_self ..), List.length_cons, Nat.add_mul, Nat.one_mul, Nat.add_comm]
theorem flat_of_rows {sz off : Nat} {rows : List (List Value)} {cur : Array Value} (hz : 0 < sz) (hr : ∀ r ∈ rows, r.length = sz)
    (hc : ∀ (i j : Nat) (u : Value), (rows[i]?.getD [])[j]? = some u → cur[off + i * sz + j]? = some u) : ∀ j u, rows.flatten[j]? = some u → cur[off + j]? = some u := by
  intro j u hu
  have hj : j < rows.length * sz := by rw [← flat_len rows hr]; exact (List.getElem?_eq_some_iff.1 hu).1
  have hq : j / sz < rows.length := Nat.div_lt_of_lt_mul (by rw [Nat.mul_comm]; exact hj)
  have hm : j % sz < sz := Nat.mod_lt _ hz
  have hd : j / sz * sz + j % sz = j := by rw [Nat.mul_comm]; exact Nat.div_add_mod j sz
  have e : rows[j / sz]? = some rows[j / sz] := List.getElem?_eq_getElem hq
  have hlen := hr rows[j / sz] (List.getElem_mem hq)
  obtain ⟨r, hrr⟩ : ∃ r, r = rows[j / sz] := ⟨_, rfl⟩
  rw [← hrr] at e hlen
  obtain ⟨u', hu'⟩ : ∃ u', r[j % sz]? = some u' := ⟨r[j % sz]'(by omega), List.getElem?_eq_getElem (by omega)⟩
  have h1 : (rows[j / sz]?.getD [])[j % sz]? = some u' := by rw [e]; exact hu'
  have h2 := flat_at rows hr (j / sz) (j % sz) u' h1
  rw [hd, hu] at h2
  cases h2
  have h3 := hc (j / sz) (j % sz) u h1
  rwa [Nat.add_assoc, hd] at h3
theorem own_below {w w' : World} {base : Nat} {v : Value} {ks : List ByteArray} (h : OwnS w base v ks) (hb : Below w.heap.size w w') : OwnS w' base v ks :=
  World.ownsRow.kept h (gb_below hb none) (by cases hv : v.ownBlock <;> simp)
theorem own_mono {w : World} {base base' : Nat} {v : Value} {ks : List ByteArray} (h : OwnS w base v ks) (hb : base' ≤ base) : OwnS w base' v ks := by
  refine ⟨h.1, ?_⟩
  rcases h.2 with h | ⟨g, cap, cur, e, hg, rest⟩
  · exact .inl h
  · exact .inr ⟨g, cap, cur, e, Nat.le_trans hb hg, rest⟩

/-- Players in a block of the call's own; the first n have positions of the call's own, in blocks apart. -/
structure Cln (w : World) (base lo g n : Nat) (ps : List PD) (pvs : List Value) : Prop where
  len : pvs.length = ps.length
  rows : RowsAt w 86 g 0 3 (plRows ps pvs)
  old : ∀ (i : Nat) (x : Value) (p : PD), n ≤ i → pvs[i]? = some x → ps[i]? = some p → Strs w lo x p.pos
  own : ∀ (i : Nat) (x : Value) (p : PD), i < n → pvs[i]? = some x → ps[i]? = some p → OwnS w base x p.pos
  apart : ∀ (i j : Nat) (x y : Value) (r : Nat), i < n → j < n → i ≠ j → pvs[i]? = some x → pvs[j]? = some y → x.ownBlock = some r → y.ownBlock ≠ some r
theorem Cln.block {w : World} {base lo g n : Nat} {ps : List PD} {pvs : List Value} (h : Cln w base lo g n ps pvs) : ∃ cur, w.heap[g]? = some (.cells cur 86 (0, 0)) := by
  obtain ⟨_, cur, h, _⟩ := h.rows
  exact ⟨cur, h⟩
theorem Cln.get {w : World} {base lo g n i : Nat} {ps : List PD} {pvs : List Value} {p : PD} (h : Cln w base lo g n ps pvs) (hp : ps[i]? = some p) :
    ∃ x, pvs[i]? = some x ∧ w.cell? ⟨g, i * 3, none⟩ = some (.string p.key) ∧ w.cell? ⟨g, i * 3 + 1, none⟩ = some (.string p.name) ∧ w.cell? ⟨g, i * 3 + 2, none⟩ = some x := by
  have hi : i < ps.length := (List.getElem?_eq_some_iff.1 hp).1
  have hl := h.len
  obtain ⟨y, hy⟩ : ∃ y, pvs[i]? = some y := ⟨pvs[i]'(by omega), List.getElem?_eq_getElem (by omega)⟩
  have hrow : (plRows ps pvs)[i]? = some [.string p.key, .string p.name, y] := by unfold plRows; rw [List.getElem?_zipWith, hp, hy]
  have c0 := h.rows.cell hrow (j := 0) rfl
  have c1 := h.rows.cell hrow (j := 1) rfl
  have c2 := h.rows.cell hrow (j := 2) rfl
  rw [Nat.zero_add] at c0 c1 c2
  exact ⟨y, hy, c0, c1, c2⟩
theorem Cln.below {w w' : World} {base lo g n : Nat} {ps : List PD} {pvs : List Value} (h : Cln w base lo g n ps pvs) (hb : Below w.heap.size w w') : Cln w' base lo g n ps pvs :=
  ⟨h.len, h.rows.below hb, fun i x p a b c => (h.old i x p a b c).below hb, fun i x p a b c => own_below (h.own i x p a b c) hb, h.apart⟩
/-- The positions of player n become a copy of the call's own. -/
theorem Cln.next {w : World} {base lo g n : Nat} {ps : List PD} {pvs : List Value} {p : PD} {x : Value} (h : Cln w base lo g n ps pvs) (hp : ps[n]? = some p) (hx : OwnS w base x p.pos) (hf : ∀ (i : Nat) (y : Value) (r : Nat), i < n → pvs[i]? = some y → x.ownBlock = some r → y.ownBlock ≠ some r) :
    Cln (w.setCell ⟨g, n * 3 + 2, none⟩ x) base lo g (n + 1) ps (pvs.set n x) := by
  have hl := h.len
  have hi : n < ps.length := (List.getElem?_eq_some_iff.1 hp).1
  obtain ⟨y0, hy0, _⟩ := h.get hp
  obtain ⟨cur, hg⟩ := h.block
  have hgx := gb_setCell w g (n * 3 + 2) x
  have hne : ∀ (v : Value) (ks : List ByteArray), OwnS w base v ks → v.ownBlock ≠ some g := fun v ks hv e => by
    obtain ⟨_, cur', h'⟩ := own_block hv g e
    rw [hg] at h'
    cases h'
  have hrow : (plRows ps pvs)[n]? = some [.string p.key, .string p.name, y0] := by unfold plRows; rw [List.getElem?_zipWith, hp, hy0]
  refine ⟨by simpa using hl, ?_, ?_, ?_, ?_⟩
  · have := RowsAt.set h.rows hrow (show 2 < 3 by omega) x
    have e := plRows_set hl n p x
    rw [set_same ps n p hp] at e
    rw [e]
    rw [Nat.zero_add] at this
    exact this
  · intro i z q hi' hz hq
    rw [List.getElem?_set, if_neg (by omega)] at hz
    exact (h.old i z q (by omega) hz hq).row hgx fun r hr => ⟨cur, _, _, by cases hr; exact hg, by decide⟩
  · intro i z q hi' hz hq
    rw [List.getElem?_set] at hz
    split at hz
    · rename_i hin
      subst hin
      rw [if_pos (by omega)] at hz
      cases hz
      rw [hp] at hq
      cases hq
      exact World.ownsRow.kept hx hgx (.inr (hne _ _ hx))
    · have := h.own i z q (by omega) hz hq
      exact World.ownsRow.kept this hgx (.inr (hne _ _ this))
  · intro i j a b r hi' hj' hij ha hb hr
    rw [List.getElem?_set] at ha hb
    split at ha
    · rename_i hin
      subst hin
      rw [if_pos (by omega)] at ha
      cases ha
      rw [if_neg hij] at hb
      exact hf j b r (by omega) hb hr
    · rename_i hin
      split at hb
      · rename_i hjn
        subst hjn
        rw [if_pos (by omega)] at hb
        cases hb
        exact fun e => hf i a r (by omega) ha e hr
      · exact h.apart i j a b r (by omega) (by omega) hij ha hb hr
/-- What is a row of players of the call's own. -/
def Grw (w : World) (base : Nat) (v : Value) (ps : List PD) : Prop :=
  ∃ g cap pvs, v = .slice (some ⟨g, 0, none⟩) ps.length cap ∧ base ≤ g ∧ Cln w base 0 g ps.length ps pvs
theorem Cln.plays {w : World} {base lo g cap : Nat} {ps : List PD} {pvs : List Value} (h : Cln w base lo g ps.length ps pvs) (hg : base ≤ g) (hn : ps.length ≤ 1000000) (hs : ∀ p ∈ ps, p.pos.length ≤ 1000000) (hcap : ps.length ≤ cap) : Plays w base (.slice (some ⟨g, 0, none⟩) ps.length cap) ps := by
  refine ⟨pvs, h.len, ?_, fun i x p hx hp => strs_of_owns (h.own i x p (List.getElem?_eq_some_iff.1 hp).1 hx hp) (hs p (List.mem_of_getElem? hp))⟩
  have := h.rows.rows (cap := cap) (by rw [plRows_length h.len]; exact hn) hg (by rw [plRows_length h.len]; exact hcap)
  rw [plRows_length h.len] at this
  exact this
set_option maxRecDepth 100000 in
set_option maxHeartbeats 1000000 in
theorem clonePs_calls (lo : Nat) (v : Value) (ps : List PD) (w : World) (hv : Plays w lo v ps) :
    Calls Tryz.prog 176 #[v] w fun e w' => ∃ v', e = .returned v' ∧ Below w.heap.size w w' ∧ ((ps = [] ∧ v' = .slice none 0 0) ∨ ∃ g cap pvs, v' = .slice (some ⟨g, 0, none⟩) ps.length cap ∧ w.heap.size ≤ g ∧ ps.length ≤ cap ∧ Cln w' w.heap.size lo g 0 ps pvs) := by
  obtain ⟨i0, hi, hz0, hz1, hz2⟩ := info_parts info_pl
  have hnil := fun a n c => Lib.run_eql_slice_nil (P := Tryz.prog) w 26 86 a n c 0 0 Tryz.underlying26
  obtain ⟨pvs, hl, hr, hpos⟩ := hv
  have hrl : (plRows ps pvs).length = ps.length := plRows_length hl
  rcases (show Rows w 86 lo 3 v (plRows ps pvs) from hr).shape with ⟨rfl, h0⟩ | ⟨g, off, cap, cur, fr, rfl, _, hg, hc⟩
  · obtain rfl : ps = [] := List.eq_nil_of_length_eq_zero (by rw [← hrl, h0]; rfl)
    clear hr hi hz0 hz1 hz2 hpos
    go_enter Tryz.func176, Tryz.ntmps176
    go_wp2_with fail
    go_ret
    exact ⟨_, rfl, Below.refl _ _, .inl (by simp)⟩
  · have hn := hr.small
    have hgl := lt_of_heap hg
    have heach := plRows_each ps pvs
    have hfl := flat_len _ heach
    have hflat := flat_of_rows (off := off) (by omega) heach hc
    have hone : ∀ u ∈ (plRows ps pvs).flatten, u.oneCell' = true := by
      intro u hu
      obtain ⟨r, hr', hur⟩ := List.mem_flatten.1 hu
      obtain ⟨i, hi'⟩ := List.getElem?_of_mem hr'
      unfold plRows at hi'
      rw [List.getElem?_zipWith] at hi'
      split at hi'
      · rename_i p x hp hx
        simp only [Option.some.injEq] at hi'
        subst hi'
        simp only [List.mem_cons, List.not_mem_nil, or_false] at hur
        rcases hur with rfl | rfl | rfl
        · rfl
        · rfl
        · obtain ⟨a, c, rfl⟩ := strs_shape (hpos i _ p hx hp)
          rfl
      · cases hi'
    have hown : (w.alloc (.cells #[] 86)).ownsRow w.heap.size 86 3 (.slice (some ⟨w.heap.size, 0, none⟩) 0 0) 0 [] := World.ownsRow_made w #[] 0 (Nat.le_refl _) (by unfold maxLen; omega) rfl
    have hnews : ∀ j u, (plRows ps pvs).flatten[j]? = some u → (w.alloc (.cells #[] 86)).cell? ((⟨g, off, none⟩ : Addr).add j) = some u := by
      intro j u hu
      have hadd : (⟨g, off, none⟩ : Addr).add j = ⟨g, off + j, none⟩ := by unfold Addr.add; split <;> simp_all
      rw [hadd, World.cell?_alloc_past _ _ _ hgl, cell_of_row w g _ cur _ fr hg]
      exact hflat j u hu
    rw [hrl] at hfl
    have Hn := Lib.hid hnews
    have Hl := Lib.hid hfl
    have H1 := Lib.hid hone
    have Hpos := Lib.hid hpos
    have Heach := Lib.hid heach
    rw [show (List.zipWith (fun (p : PD) (x : Value) => [Value.string p.key, .string p.name, x]) ps pvs).length = ps.length from hrl] at hn
    rw [hrl]
    clear hnews hc hflat hfl hg hr hone hpos heach
    go_enter Tryz.func176, Tryz.ntmps176
    go_wp2_with (at_builtin; refine wpList_append_own _ rfl _ _ 26 rfl w.heap.size 86 i0 (.agg #[.string ⟨#[]⟩, .string ⟨#[]⟩, .slice none 0 0]) 3 56 Tryz.underlying26 hi hz0 hz1 hz2 rfl (by decide) _ 0 [] rfl hown ⟨g, off, none⟩ ps.length cap ((plRows ps pvs).flatten) rfl Hl.out Hn.out ?c2 ?c3 ?c4 ?c5 ?_)
    case c2 => exact H1.out
    case c3 => unfold maxLen; omega
    case c4 => omega
    case c5 => simp
    intro v' w4 hown4 hgrow _
    have hb4 : Below w.heap.size w w4 := (below_alloc w _).grown hgrow (by simp) fun r hr => (own_block hown r hr).1
    obtain ⟨a, c, hv'⟩ := owns_shape hown4
    subst hv'
    go_wp2_with fail
    go_ret
    refine ⟨_, rfl, hb4, ?_⟩
    rcases hown4.2 with ⟨e, h0⟩ | ⟨g', cap', cur', e, hb', hg', hle', _⟩
    · exact .inl ⟨List.eq_nil_of_length_eq_zero h0, e⟩
    · rw [e] at hown4 ⊢
      have hR := RowsAt.of_owns (rows := plRows ps pvs) (by rw [hrl]; exact hown4) Heach.out
      exact .inr ⟨g', cap', pvs, rfl, hb', by omega, hl, hR.1, fun i x p _ hx hp => (Hpos.out i x p hx hp).below hb4, fun i x p h => by omega, fun i j x y r h => by omega⟩
set_option maxRecDepth 100000 in
set_option maxHeartbeats 4000000 in
theorem cloneP_calls (lo : Nat) (v : Value) (ps : List PD) (w : World) (hv : Plays w lo v ps) :
    Calls Tryz.prog 120 #[v] w fun e w' => ∃ v', e = .returned v' ∧ Below w.heap.size w w' ∧ ((ps = [] ∧ v' = .slice none 0 0) ∨ ∃ g cap pvs, v' = .slice (some ⟨g, 0, none⟩) ps.length cap ∧ w.heap.size ≤ g ∧ ps.length ≤ cap ∧ Cln w' w.heap.size lo g ps.length ps pvs) := by
  have Hv := Lib.hid hv
  have hpn : ps.length ≤ 1000000 := by
    rcases plays_at hv with ⟨_, rfl⟩ | ⟨_, _, _, _, _, _, h, _⟩
    · simp
    · exact h
  clear hv
  go_enter Tryz.func120, Tryz.ntmps120
  go_wp2_with fail
  refine (clonePs_calls lo v ps w Hv.out).mono ?_
  rintro e w1 ⟨v', rfl, hb, ⟨rfl, rfl⟩ | ⟨g, cap, pvs, rfl, hg, hcp, hC⟩⟩
  · go_wp2_with fail
    refine wp_loop_rounds 1 ?_
    rw [rounds_succ]
    go_wp2_with fail
    go_ret
    exact ⟨_, rfl, hb, .inl (by simp)⟩
  · have HC := Lib.hid hC
    have Hsz := hb.size
    clear hC
    go_wp2_with fail
    go_loopw [9] (fun i wr => ∃ (n : Nat) (pvs : List Value), i = .int .i64 n ∧ n ≤ ps.length ∧ Hid (Cln wr w.heap.size lo g n ps pvs) ∧ Below w.heap.size w wr) (fun i _ => ps.length - (intOf i).toNat)
    case atStart => exact ⟨0, pvs, rfl, by omega, HC, hb⟩
    case round =>
      obtain ⟨n, qvs, rfl, hn, HCn, hbn⟩ := hrel
      clear HC hb
      have hwr := hbn.size
      by_cases hlt : n < ps.length
      · obtain ⟨p, hp⟩ : ∃ p, ps[n]? = some p := ⟨_, List.getElem?_eq_getElem hlt⟩
        obtain ⟨x, hx, c0, c1, c2⟩ := HCn.out.get hp
        obtain ⟨cur, hgb⟩ := HCn.out.block
        have hS := HCn.out.old n x p (Nat.le_refl _) hx hp
        have hgl := lt_of_heap hgb
        have Hx := Lib.hid hx
        have Hp := Lib.hid hp
        clear hx hp hgb
        go_wp2_with fail
        refine (clone_calls lo x p.pos _ hS).mono ?_
        rintro e w2 ⟨v2, hv2, rfl, hb2⟩
        have hC2 := HCn.out.below hb2
        have hgr : w2.frozen? ⟨g, n * 3 + 2, none⟩ = false := hC2.rows.free _
        obtain ⟨_, _, _, _, c2'⟩ := hC2.get Hp.out
        have hv2' := own_mono hv2 hwr
        have hN := Lib.hid (hC2.next Hp.out hv2' (fun i y r hi hy hr e => by
          obtain ⟨q, hq⟩ : ∃ q, ps[i]? = some q := ⟨_, List.getElem?_eq_getElem (show i < ps.length by omega)⟩
          obtain ⟨_, cur', h'⟩ := own_block (HCn.out.own i y q hi hy hq) r e
          have := (own_block hv2 r hr).1
          have := lt_of_heap h'
          omega))
        have hb3 : Below w.heap.size w (w2.setCell ⟨g, n * 3 + 2, none⟩ v2) := (hbn.trans (hb2.mono hwr)).setCell hg v2
        obtain ⟨oa, oc, hsh⟩ := owns_shape hv2
        subst hsh
        clear hv2 hv2' hC2 hS c0 c1 c2 HCn hb2 hbn
        go_wp2_with fail
        go_roundw
        case rel => exact ⟨n + 1, _, by go_num, by omega, hN, hb3⟩
        case measure => simp [intOf]; omega
      · obtain rfl : n = ps.length := by omega
        go_wp2_with fail
        go_ret
        exact ⟨_, rfl, hbn, .inr ⟨g, cap, qvs, rfl, hg, hcp, HCn.out⟩⟩
end Go.Proofs.YtmjkbmkjnbpgeaaGreatDoor
