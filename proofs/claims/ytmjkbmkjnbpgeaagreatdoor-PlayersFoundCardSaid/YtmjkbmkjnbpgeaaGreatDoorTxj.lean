/- FoundBy: the reference looks for players by words. -/
import Derived.Test.YtmjkbmkjnbpgeaaGreatDoorTxi
import Derived.Test.YtmjkbmkjnbpgeaaGreatDoorTxh
import Derived.Test.YtmjkbmkjnbpgeaaGreatDoorBh
import Derived.Lib.SplitLaws
namespace Go.Proofs.YtmjkbmkjnbpgeaaGreatDoor
open Go.RowKit

def wordsR (s : ByteArray) : List ByteArray := Lib.splitB ⟨#[32]⟩ 0 (Lib.countB (lowR s) ⟨#[32]⟩) (lowR s)
theorem lowR_size (s : ByteArray) : (lowR s).size = s.size := by
  unfold lowR
  show (List.toArray _).size = _
  rw [List.size_toArray, List.length_map, Array.length_toList]; rfl
theorem wordsR_length (s : ByteArray) : (wordsR s).length = Lib.countB (lowR s) ⟨#[32]⟩ + 1 := Lib.splitB_all ⟨#[32]⟩ (by decide) 0 _ (lowR s) rfl
theorem wordsR_le (s : ByteArray) : (wordsR s).length ≤ s.size + 1 := by
  have := Lib.countB_le ⟨#[32]⟩ (by decide) (lowR s).size (lowR s) (Nat.le_refl _)
  rw [wordsR_length]
  rw [lowR_size] at this
  omega
theorem splitB_sizeW (sep : ByteArray) : ∀ (k : Nat) (s : ByteArray), ∀ x ∈ Lib.splitB sep 0 k s, x.size ≤ s.size
  | 0, s, x, h => by
    rw [Lib.splitB_zero] at h
    obtain rfl := List.mem_singleton.1 h
    exact Nat.le_refl _
  | k + 1, s, x, h => by
    unfold Lib.splitB at h
    split at h
    · obtain rfl := List.mem_singleton.1 h
      exact Nat.le_refl _
    · rcases List.mem_cons.1 h with rfl | h
      · simp [ByteArray.size_extract]; omega
      · have := splitB_sizeW sep k _ x h
        simp [ByteArray.size_extract] at this
        omega
theorem wordsR_size (s : ByteArray) : ∀ x ∈ wordsR s, x.size ≤ s.size := fun x hx => by
  have := splitB_sizeW _ _ _ x hx
  rwa [lowR_size] at this
theorem rowsAt_new (w : World) (ks : List ByteArray) (h : ks.length ≤ 1000000) : RowsAt (w.alloc (.cells (ks.map Value.string).toArray 9)) 9 w.heap.size 0 1 (ks.map sRow) := by
  have e : (ks.map sRow).flatten = ks.map Value.string := flatten_single Value.string ks
  have h1 := World.ownsRow_lit (base := w.heap.size) (e := 9) (size := 1) w (ks.map Value.string).toArray ks.length (by simp) (by unfold maxLen; omega) (by simp)
  exact (RowsAt.of_owns (rows := ks.map sRow) (n := ks.length) (cap := ks.length) (by rw [List.length_map, e]; simpa using h1) (by intro r hr; obtain ⟨k, _, rfl⟩ := List.mem_map.1 hr; rfl)).1
theorem splitR_calls (s : ByteArray) (w : World) (hs : s.size ≤ 1000) (hG : Glob w) :
    Calls Tryz.prog 133 #[.string (lowR s), .string ⟨#[32]⟩] w fun e w' => e = .returned (.slice (some ⟨w.heap.size, 0, none⟩) (wordsR s).length (wordsR s).length) ∧ RowsAt w' 9 w.heap.size 0 1 ((wordsR s).map sRow) ∧ Below w.heap.size w w' := by
  obtain ⟨m, hm⟩ := hG.2
  refine (Tryz.strings_Split (lowR s) ⟨#[32]⟩ m w (by rw [lowR_size]; omega) hm (by decide)).mono ?_
  rintro e w' ⟨rfl, rfl⟩
  have h1 := wordsR_le s
  have h2 := rowsAt_new w (wordsR s) (by omega)
  rw [wordsR_length]
  exact ⟨rfl, h2, below_alloc w _⟩
theorem strs_of_rowsAt {w : World} {g n c : Nat} {ks : List ByteArray} (h : RowsAt w 9 g 0 1 (ks.map sRow)) (hn : ks.length ≤ 1000000) (hk : n = ks.length) (hc : n ≤ c) : Strs w g (.slice (some ⟨g, 0, none⟩) n c) ks := by
  have := h.rows (lo := g) (cap := c) (by simpa using hn) (Nat.le_refl _) (by rw [List.length_map]; omega)
  rw [List.length_map] at this
  rw [hk]
  exact this
/-- Is somebody of this name looked for? -/
def foundB (q name : ByteArray) : Bool := decide ((lenSort (wordsR q)).length ≤ (wordsR name).length) && coversB (lenSort (wordsR q)) (wordsR name)
set_option maxRecDepth 100000 in
set_option maxHeartbeats 8000000 in
theorem foundBy_calls (lo : Nat) (v : Value) (ps : List PD) (q : ByteArray) (w : World) (hp : Plays w lo v ps) (hs : ∀ p ∈ ps, p.name.size ≤ 900) (hq : q.size ≤ 900) (hq12 : (wordsR q).length ≤ 12) (hG : Glob w) :
    Calls Tryz.prog 61 #[v, .string q] w (MadeS (thoseL (fun p => foundB q p.name) ps) w) := by
  obtain ⟨i0, hi, hz0, hz1, hz2⟩ := info_parts info_str
  have HP := Lib.hid hp
  have HN := Lib.hid hs
  have HG := Lib.hid hG
  obtain ⟨pa, pc, rfl⟩ := plays_shape hp
  have C1 := Lib.hid (lower_calls q w (by omega))
  have hsw := wordsR_size q
  have h1q : 1 ≤ (wordsR q).length := by rw [wordsR_length]; omega
  have HF := Lib.hid (show ∀ name, foundB q name = (decide ((lenSort (wordsR q)).length ≤ (wordsR name).length) && coversB (lenSort (wordsR q)) (wordsR name)) from fun _ => rfl)
  have C2 := Lib.hid (fun w' (h : Below w.heap.size w w') => splitR_calls q w' (by omega) (hG.below h))
  generalize hf : (fun p : PD => foundB q p.name) = f
  have Hf := Lib.hid (show ∀ p, f p = foundB q p.name from fun p => by rw [← hf])
  clear hp hs hG hf
  go_enter Tryz.func61, Tryz.ntmps61
  go_wp2_with fail
  refine C1.out.mono ?_
  rintro e w1 ⟨rfl, hb1⟩
  go_wp2_with fail
  refine (C2.out w1 hb1).mono ?_
  rintro e w2 ⟨rfl, hR2, hb2⟩
  have hb02 := below_step hb1 hb2
  have hs1 := hb1.size
  have hgl := hR2.lt
  have C3 := Lib.hid (sortFunc_calls w1.heap.size 0 (wordsR q).length (wordsR q) w2 hR2 hq12 h1q (fun k hk => by have := hsw k hk; omega))
  have hll := lenSort_length (wordsR q)
  have hlk := Lib.hid (insTo_small (M := 1000) (ks := wordsR q) (fun k hk => by have := hsw k hk; omega) (wordsR q).length)
  have Hlk := Lib.hid (show ∀ k ∈ lenSort (wordsR q), k.size ≤ 1000 from hlk.out)
  clear C1 C2 hsw hR2 hlk hb1
  go_wp2_with fail
  refine C3.out.mono ?_
  rintro e w3 ⟨rfl, hR3, hg3⟩
  have hb03 : Below w.heap.size w w3 := hb02.grown hg3 hb02.size fun r hr => by cases hr; exact hs1
  have hS3 := strs_of_rowsAt (n := (wordsR q).length) (c := (wordsR q).length) hR3 (by omega) hll.symm (Nat.le_refl _)
  have HS3 := Lib.hid hS3
  have HP3 := Lib.hid (HP.out.below hb03)
  have HG3 := Lib.hid (HG.out.below hb03)
  have Hb3 := Lib.hid hb03
  have hs3 := hb03.size
  generalize lenSort (wordsR q) = W at HF hll Hlk HS3
  obtain ⟨n, hnn⟩ : ∃ n, (wordsR q).length = n := ⟨_, rfl⟩
  rw [hnn] at hll HS3 hq12
  rw [hnn]
  clear C3 hR3 hg3 hb02 hb2 hb03 hS3 h1q hnn hgl
  go_wp2_with fail
  go_loopw [6, 17] (fun out i wr => ∃ k : Nat, k ≤ ps.length ∧ i = .int .i64 k ∧ OwnS wr w3.heap.size out (thoseL f (ps.take k)) ∧ Below w3.heap.size w3 wr) (fun _ i _ => ps.length - (intOf i).toNat)
  case atStart => exact ⟨0, Nat.zero_le _, rfl, World.ownsRow_nil _ _ _ _, Below.refl _ _⟩
  case round =>
    obtain ⟨k, hk, rfl, hown, hb⟩ := hrel
    by_cases hlt : k < ps.length
    · obtain ⟨p, hpk⟩ : ∃ p, ps[k]? = some p := ⟨ps[k], List.getElem?_eq_getElem hlt⟩
      rcases plays_at (HP3.out.below hb) with ⟨_, rfl⟩ | ⟨g, off, cap, e, hlo, hgl, _, hcell⟩
      · simp at hlt
      · simp only [Value.slice.injEq, true_and] at e
        obtain ⟨rfl, rfl⟩ := e
        obtain ⟨x, g0, g1, g2, hx⟩ := hcell k p hpk
        obtain ⟨qa, qc, rfl⟩ := strs_shape' hx
        have hnm := HN.out p (List.mem_of_getElem? hpk)
        have Hsn := Lib.hid (thoseL_snoc f hpk)
        have hle := Lib.hid (thoseL_le f (ps.take k))
        have hpn : ps.length ≤ 1000000 := by assumption
        obtain ⟨X, hX⟩ : ∃ X, X = wr.heap.size := ⟨_, rfl⟩
        obtain ⟨W1, hW1⟩ : ∃ W1, W1 = wr.alloc (.cells #[.string p.key, .string p.name, .slice qa p.pos.length qc] 86) := ⟨_, rfl⟩
        have hbb : Below wr.heap.size wr W1 := by rw [hW1]; exact below_alloc wr _
        have y0 : W1.cell? ⟨X, 0, none⟩ = some (.string p.key) := by rw [hW1, hX, World.cell?_alloc_at _ _ _ _ rfl]; rfl
        have y1 : W1.cell? ⟨X, 1, none⟩ = some (.string p.name) := by rw [hW1, hX, World.cell?_alloc_at _ _ _ _ rfl]; rfl
        have hbw1 := below_step hb hbb
        have Hown1 := Lib.hid (own_below hown hbb)
        have C1 := Lib.hid (lower_calls p.name W1 (by omega))
        have C2 := Lib.hid (fun w' (h : Below w3.heap.size w3 w') => splitR_calls p.name w' (by omega) (HG3.out.below h))
        have hwl := wordsR_le p.name
        have HsW := Lib.hid (wordsR_size p.name)
        have HFp := Lib.hid (show f p = (decide (W.length ≤ (wordsR p.name).length) && coversB W (wordsR p.name)) by rw [Hf.out, HF.out])
        have HW1 := Lib.hid hW1
        have HX := Lib.hid hX
        generalize wordsR p.name = V at C2 hwl HsW HFp
        clear hpk hcell hx hown hbb hb hW1 hX
        go_upto_region 7 with fail
        rw [← HW1.out, ← HX.out]
        clear HW1 HX g0 g1 g2
        go_wp2_with fail
        refine C1.out.mono ?_
        rintro e w4 ⟨rfl, hb4⟩
        have y0 := below_cell hb4 y0
        have hbw4 := below_step hbw1 hb4
        have Hown4 := Lib.hid (own_below Hown1.out hb4)
        clear C1 hb4 hbw1 Hown1 y1
        go_wp2_with fail
        refine (C2.out w4 hbw4).mono ?_
        rintro e w5 ⟨rfl, hR5, hb5⟩
        have y0 := below_cell hb5 y0
        have hbw5 := below_step hbw4 hb5
        have Hown5 := Lib.hid (own_below Hown4.out hb5)
        have HV5 := Lib.hid (strs_of_rowsAt (n := V.length) (c := V.length) hR5 (by omega) rfl (Nat.le_refl _))
        have hs4 := hbw4.size
        clear C2 hb5 hbw4 Hown4 hR5
        by_cases hlen : n ≤ V.length
        · have C3 := Lib.hid (covers_calls W V _ _ _ _ w5 (HS3.out.below hbw5) HV5.out (by omega) (by omega) (fun k hk => by have := HsW.out k hk; omega) (fun k hk => by have := Hlk.out k hk; omega))
          have HFq := Lib.hid (show f p = coversB W V by rw [HFp.out, decide_eq_true (by omega), Bool.true_and])
          generalize coversB W V = b at C3 HFq
          have d1 : decide ((n : Int) ≤ (V.length : Int)) = true := decide_eq_true (by omega)
          go_wp2_with fail
          refine C3.out.mono ?_
          rintro e w6 ⟨rfl, hb6⟩
          have y0 := below_cell hb6 y0
          have hbw6 := below_step hbw5 hb6
          have hown6 := own_below Hown5.out hb6
          clear C3 hb6 hbw5 Hown5 d1
          cases b
          · have Hs' := Lib.hid (show thoseL f (ps.take (k + 1)) = thoseL f (ps.take k) by rw [Hsn.out, HFq.out]; simp)
            go_wp2_with fail
            go_roundw
            case rel => exact ⟨k + 1, by omega, by go_num, by rw [Hs'.out]; exact hown6, hbw6⟩
            case measure => simp [intOf]; omega
          · have Hs' := Lib.hid (show thoseL f (ps.take (k + 1)) = thoseL f (ps.take k) ++ [p.key] by rw [Hsn.out, HFq.out]; simp)
            have hl : (thoseL f (ps.take k)).length ≤ 1000000 := by have := hle.out; have := List.length_take_le k ps; omega
            go_wp2_with (at_builtin; refine wpList_append_own _ rfl _ _ 35 rfl w3.heap.size 9 i0 (.string ⟨#[]⟩) 1 16 Tryz.underlying35 hi hz0 hz1 hz2 rfl (by decide) _ _ _ rfl (World.ownsRow.alloc hown6 _) ⟨w6.heap.size, 0, none⟩ 1 1 [.string p.key] rfl rfl ?c1 ?c2 ?c3 ?c4 ?c5 ?_)
            case c1 => exact cell_one_new _ _ _
            case c2 => simp [Value.oneCell']
            case c3 => unfold maxLen; omega
            case c4 => omega
            case c5 => have := hbw6.size; simp; omega
            intro v' w7 hown7 hgrow _
            have hown7' : OwnS w7 w3.heap.size v' (thoseL f (ps.take k) ++ [p.key]) := by unfold OwnS; simpa using hown7
            have hbw7 : Below w3.heap.size w3 w7 := (below_step hbw6 (below_alloc w6 _)).grown hgrow (by have := hbw6.size; simp; omega) fun r hr => (own_block hown6 r hr).1
            clear hown7 hgrow
            go_wp2_with fail
            go_roundw
            case rel => exact ⟨k + 1, by omega, by go_num, by rw [Hs'.out]; exact hown7', hbw7⟩
            case measure => simp [intOf]; omega
        · have d1 : decide ((n : Int) ≤ (V.length : Int)) = false := decide_eq_false (by omega)
          have Hs' := Lib.hid (show thoseL f (ps.take (k + 1)) = thoseL f (ps.take k) by rw [Hsn.out, HFp.out, decide_eq_false (by omega)]; simp)
          have hown5 := Hown5.out
          go_wp2_with fail
          go_roundw
          case rel => exact ⟨k + 1, by omega, by go_num, by rw [Hs'.out]; exact hown5, hbw5⟩
          case measure => simp [intOf]; omega
    · obtain rfl : k = ps.length := by omega
      have hT := Lib.hid (List.take_length (l := ps))
      go_wp2_with fail
      go_ret
      exact ⟨_, own_mono' (by rw [hT.out] at hown; exact hown) hs3, rfl, Hb3.out.trans (hb.mono hs3)⟩
end Go.Proofs.YtmjkbmkjnbpgeaaGreatDoor
