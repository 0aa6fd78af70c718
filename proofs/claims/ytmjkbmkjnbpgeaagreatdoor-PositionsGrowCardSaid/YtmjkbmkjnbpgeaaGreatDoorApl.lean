/- gain: a position put into its place, unless it is there. -/
import Derived.Test.YtmjkbmkjnbpgeaaGreatDoorApk
namespace Go.Proofs.YtmjkbmkjnbpgeaaGreatDoor
open Go.RowKit

theorem bs_le (ps : List PD) (who : ByteArray) : ∀ f i j, i ≤ j → bs ps who f i j ≤ j
  | 0, i, j, h => h
  | f + 1, i, j, h => by
    unfold bs
    split
    · rename_i hij
      split
      · exact bs_le ps who f _ _ (by omega)
      · exact Nat.le_trans (bs_le ps who f i _ (by omega)) (by omega)
    · exact h
theorem binS_le (ks : List ByteArray) (x : ByteArray) : binS ks x ≤ ks.length := by
  have := bs_le (asP ks) x (asP ks).length 0 (asP ks).length (Nat.zero_le _)
  rw [asP_length] at this
  unfold binS bsI
  rw [asP_length]
  exact this
/-- The positions with one more. -/
def gainL (ks : List ByteArray) (x : ByteArray) : List ByteArray := if isS ks x then ks else insL ks (binS ks x) x
theorem gainL_in {ks : List ByteArray} {x : ByteArray} (h : isS ks x = true) : gainL ks x = ks := by unfold gainL; rw [if_pos h]
theorem gainL_out {ks : List ByteArray} {x : ByteArray} (h : isS ks x = false) : gainL ks x = insL ks (binS ks x) x := by unfold gainL; rw [h]; rfl
theorem gainL_le (ks : List ByteArray) (x : ByteArray) : (gainL ks x).length ≤ ks.length + 1 := by
  unfold gainL
  split
  · omega
  · rw [insL_length]; omega
theorem Cln.gain {w w' : World} {base lo g n : Nat} {ps : List PD} {pvs : List Value} {p : PD} {x v : Value} {ks : List ByteArray} (h : Cln w base lo g ps.length ps pvs) (hp : ps[n]? = some p) (hx : pvs[n]? = some x) (hg : w.grownBy w' x.ownBlock)
    (hv : OwnS w' base v ks) (ho : v.ownBlock = x.ownBlock ∨ v.ownBlock = some w.heap.size) :
    Cln (w'.setCell ⟨g, n * 3 + 2, none⟩ v) base lo g ps.length (ps.set n { p with pos := ks }) (pvs.set n v) := by
  have hl := h.len
  have hi : n < ps.length := (List.getElem?_eq_some_iff.1 hp).1
  obtain ⟨cur, hgc⟩ := h.block
  have hne : ∀ (z : Value) (qs : List ByteArray), OwnS w base z qs → z.ownBlock ≠ some g := fun z qs hz e => by
    obtain ⟨_, cur', h'⟩ := own_block hz g e
    rw [hgc] at h'
    cases h'
  have hgb : w'.heap[g]? = w.heap[g]? := hg.block g (lt_of_heap hgc) fun e => hne x _ (h.own n x p hi hx hp) e.symm
  have hgc' := hgb.trans hgc
  have hne' : ∀ (z : Value) (qs : List ByteArray), OwnS w' base z qs → z.ownBlock ≠ some g := fun z qs hz e => by
    obtain ⟨_, cur', h'⟩ := own_block hz g e
    rw [hgc'] at h'
    cases h'
  have hgx := gb_setCell w' g (n * 3 + 2) v
  have hrow : (plRows ps pvs)[n]? = some [.string p.key, .string p.name, x] := by unfold plRows; rw [List.getElem?_zipWith, hp, hx]
  refine ⟨by simpa using hl, ?_, ?_, ?_, ?_⟩
  · have := RowsAt.set (h.rows.lift hgb) hrow (show 2 < 3 by omega) v
    have e := plRows_set hl n { p with pos := ks } v
    rw [e]
    rw [Nat.zero_add] at this
    exact this
  · intro i z q hi' hz hq
    have := (List.getElem?_eq_some_iff.1 hq).1
    simp at this
    omega
  · intro i z q hi' hz hq
    rw [List.getElem?_set] at hz hq
    split at hz
    · rename_i hin
      subst hin
      rw [if_pos (by omega)] at hz
      rw [if_pos rfl, if_pos (by omega)] at hq
      cases hz
      cases hq
      exact World.ownsRow.kept hv hgx (.inr (hne' _ _ hv))
    · rename_i hin
      rw [if_neg hin] at hq
      have h1 := h.own i z q hi' hz hq
      have h2 : OwnS w' base z q.pos := World.ownsRow.kept h1 hg (by
        cases hzo : z.ownBlock with
        | none => exact .inl rfl
        | some r => exact .inr fun e => h.apart i n z x r hi' hi (fun e => hin e.symm) hz hx hzo e.symm)
      exact World.ownsRow.kept h2 hgx (.inr (hne' _ _ h2))
  · intro i j a b r hi' hj' hij ha hb hr
    have fresh : ∀ (k : Nat) (z : Value), k < ps.length → pvs[k]? = some z → z.ownBlock ≠ some w.heap.size := fun k z hk hz e => by
      obtain ⟨q, hq⟩ : ∃ q, ps[k]? = some q := ⟨_, List.getElem?_eq_getElem hk⟩
      obtain ⟨_, cur', h'⟩ := own_block (h.own k z q hk hz hq) _ e
      have := lt_of_heap h'
      omega
    rw [List.getElem?_set] at ha hb
    split at ha
    · rename_i hin
      subst hin
      rw [if_pos (by omega)] at ha
      cases ha
      rw [if_neg hij] at hb
      rcases ho with ho | ho
      · exact h.apart n j x b r hi hj' hij hx hb (by rw [← ho]; exact hr)
      · rw [ho] at hr
        cases hr
        exact fresh j b hj' hb
    · rename_i hin
      split at hb
      · rename_i hjn
        subst hjn
        rw [if_pos (by omega)] at hb
        cases hb
        rcases ho with ho | ho
        · rw [ho]
          exact h.apart i n a x r hi' hi hij ha hx hr
        · rw [ho]
          intro e
          cases e
          exact fresh i a hi' ha hr
      · exact h.apart i j a b r hi' hj' hij ha hb hr
set_option maxRecDepth 100000 in
set_option maxHeartbeats 4000000 in
theorem gain_calls (base lo g cap n : Nat) (ps : List PD) (pvs : List Value) (p : PD) (who pos : ByteArray) (w : World) (hC : Cln w base lo g ps.length ps pvs) (hb : base ≤ w.heap.size) (hg : base ≤ g) (hcp : ps.length ≤ cap) (hn : bsI ps who = n) (hp : ps[n]? = some p) (hl : ∀ p ∈ ps, p.pos.length ≤ 1000) (hps : ps.length ≤ 1000000) :
    Calls Tryz.prog 121 #[.slice (some ⟨g, 0, none⟩) ps.length cap, .string who, .string pos] w fun e w' => e = .returned (.tuple #[]) ∧ Below base w w' ∧ ∃ pvs', Cln w' base lo g ps.length (ps.set n { p with pos := gainL p.pos pos }) pvs' := by
  have HP := Lib.hid (hC.plays (cap := cap) hg hps (fun p hp => by have := hl p hp; omega) hcp)
  have HC := Lib.hid hC
  have Hp := Lib.hid hp
  have Hn := Lib.hid hn
  have hpl := hl p (List.mem_of_getElem? hp)
  have hnl : n < ps.length := (List.getElem?_eq_some_iff.1 hp).1
  clear hC hp hn hl
  go_enter Tryz.func121, Tryz.ntmps121
  go_wp2_with fail
  refine (find_calls base who _ ps w HP.out).mono ?_
  rintro e w1 ⟨rfl, hb1⟩
  rw [Hn.out]
  have hC1 := HC.out.below hb1
  obtain ⟨x, hx, -, -, c2⟩ := hC1.get Hp.out
  have hO := hC1.own n x p hnl hx Hp.out
  have hS := strs_of_owns hO (by omega)
  have hBl : Below base w w1 := hb1.mono hb
  have hw1 := hb1.size
  have HC1 := Lib.hid hC1
  have Hx := Lib.hid hx
  have hgl := hC1.rows.lt
  have HBS := Lib.hid (binarySearchS_calls base x p.pos pos w1 hS)
  clear hC1 hx hb1 hS
  go_wp2_with fail
  refine HBS.out.mono ?_
  rintro e w1' ⟨rfl, rfl⟩
  clear HBS
  cases his : isS p.pos pos
  · have HG := Lib.hid (gainL_out his)
    have Ho := Lib.hid hO
    obtain ⟨W2, hW2⟩ : ∃ W2, W2 = w1.alloc (.cells #[.string pos] 9) := ⟨_, rfl⟩
    have hX : W2.heap[w1.heap.size]? = some (.cells #[.string pos] 9 (0, 0)) := by rw [hW2]; exact heap_alloc_new w1 _
    have hb2 : Below w1.heap.size w1 W2 := by rw [hW2]; exact below_alloc w1 _
    have hO2 := own_below hO hb2
    have hC2 := HC1.out.below hb2
    have hI := Lib.hid (insertS_calls base w1.heap.size (binS p.pos pos) x p.pos pos W2 hO2 (binS_le _ _) hpl (by have := hb2.size; omega) hX (fun e => by
      obtain ⟨_, cur', h'⟩ := own_block hO _ e
      have := lt_of_heap h'
      omega))
    have HB2 := Lib.hid (hBl.trans (hb2.mono (by omega)))
    have HC2 := Lib.hid hC2
    have hs2 := hb2.size
    clear hO hO2 hC2 hX hb2 hBl
    go_wp2_with fail
    rw [← hW2]
    clear hW2
    refine hI.out.mono ?_
    rintro e w3 ⟨v', rfl, hv', hgr, hor⟩
    have hN := HC2.out.gain Hp.out Hx.out hgr hv' hor
    rw [← HG.out] at hN
    obtain ⟨cur, hgc⟩ := HC2.out.block
    have hOw2 := HC2.out.own n x p hnl Hx.out Hp.out
    have hg3 := (hgr.block g (lt_of_heap hgc) fun e => by
      obtain ⟨_, cur', h'⟩ := own_block hOw2 g e.symm
      rw [hgc] at h'
      cases h')
    have hR3 := HC2.out.rows.lift hg3
    have hrow : (plRows ps pvs)[n]? = some [.string p.key, .string p.name, x] := by unfold plRows; rw [List.getElem?_zipWith, Hp.out, Hx.out]
    have c3 := hR3.cell hrow (j := 2) rfl
    rw [Nat.zero_add] at c3
    have cf3 : w3.frozen? ⟨g, n * 3 + 2, none⟩ = false := hR3.free _
    have hB3 : Below base w w3 := HB2.out.grown hgr (by have := HB2.out.size; omega) fun r hr => (own_block hOw2 r hr).1
    have HN := Lib.hid hN
    obtain ⟨oa', oc', hsh⟩ := owns_shape hv'
    subst hsh
    clear hN hv' hgr hor hgc hOw2 hg3 hR3 hrow hI HC2
    go_wp2_with fail
    go_end0
    exact ⟨rfl, hB3.setCell hg _, _, HN.out⟩
  · have hE : ps.set n { p with pos := gainL p.pos pos } = ps := by rw [gainL_in his]; exact set_same ps n p Hp.out
    go_wp2_with fail
    go_end0
    exact ⟨rfl, hBl, pvs, by rw [hE]; exact HC1.out⟩
end Go.Proofs.YtmjkbmkjnbpgeaaGreatDoor
