/- The reference's ListFault and PlayersFault. -/
import Derived.Test.YtfcaokpadodijaaGreatMgak
import Derived.Deep.Cut
import Derived.Test.YtfcaokpadodijaaGreatMgaj
/- check.Rising and CheckPlayers. -/
namespace Go.Proofs.YtfcaokpadodijaaGreat
open Go.RowKit

theorem strs_shape' {w : World} {lo : Nat} {v : Value} {ks : List ByteArray} (h : Strs w lo v ks) : ∃ a c, v = .slice a ks.length c := by
 rcases strs_at h with ⟨rfl, rfl⟩ | ⟨g, off, cap, rfl, _⟩
 ·exact ⟨none, 0, rfl⟩
 ·exact ⟨_, _, rfl⟩
set_option maxRecDepth 100000 in
set_option maxHeartbeats 1000000 in
theorem rising_calls (lo : Nat) (v : Value) (ks : List ByteArray) (most : Int) (w : World) (hv : Strs w lo v ks) (hk : ∀ k ∈ ks, k.size ≤ 1000) (hn : ks.length ≤ 1000000) :
  Calls Tryz.prog 114 #[v, .int .i64 most] w (IntBelow (eachE ks.length most (risF ks)) w) := by
 obtain ⟨a, c, rfl⟩ := strs_shape' hv
 have hf : ∀ (W : World) (i : Nat), i < ks.length → Below (w.alloc (.cells #[.slice a ks.length c] 39)).heap.size (w.alloc (.cells #[.slice a ks.length c] 39)) W → Calls Tryz.prog 135 (#[.int .i64 (i : Int)] ++ #[.pointer (some ⟨w.heap.size, 0, none⟩)]) W (IntBelow (risF ks i) W) := by
  intro W i hi hb; have hvW := (hv.below (below_alloc w (.cells #[.slice a ks.length c] 39))).below hb; rcases strs_at hvW with ⟨_, rfl⟩ | ⟨g, off, cap, e, _, _, _, hc⟩
  ·simp at hi
  ·obtain ⟨k, hki⟩ : ∃ k, ks[i]? = some k := ⟨ks[i], List.getElem?_eq_getElem hi⟩
   refine rising1_calls w.heap.size g off cap i ks k W hki (by have := hk k (List.mem_of_getElem? hki); omega) hn ?_ hc
   rw [← e]; exact below_cell hb (by rw [World.cell?_alloc_at _ _ _ _ rfl]; rfl)
 have Hf := Lib.hid hf
 clear hf hv
 go_enter Tryz.func114, Tryz.ntmps114
 go_wp2_with fail
 refine (each_calls 135 #[.pointer (some ⟨w.heap.size, 0, none⟩)] (enters_of Tryz.func135 (by kernel_rfl) rfl) (risF ks) ks.length most _ hn Hf.out).mono ?_
 rintro e w' ⟨rfl, hb⟩
 go_wp2_with fail
 go_ret
 exact ⟨rfl, (below_alloc w _).trans (hb.mono (by simp))⟩

theorem nums4' (w : World) (T : Nat) (a b c d : Int) : NumsAt (w.alloc (.cells #[.int .i64 a, .int .i64 b, .int .i64 c, .int .i64 d] T)) w.heap.size 0 [a, b, c, d] := by
 intro i x hx
 rw [World.cell?_alloc_at _ _ _ _ rfl]
 match i, hx with
 | 0, hx => simp at hx; subst hx; rfl
 | 1, hx => simp at hx; subst hx; rfl
 | 2, hx => simp at hx; subst hx; rfl
 | 3, hx => simp at hx; subst hx; rfl
end Go.Proofs.YtfcaokpadodijaaGreat
/- The reference's small parts: when, errs, in, Week, only, Key. -/
namespace Go.Proofs.YtfcaokpadodijaaGreat
open Go.RowKit

set_option maxRecDepth 100000 in
set_option maxHeartbeats 1000000 in
theorem errs_calls (g off cap : Nat) (xs : List Int) (w : World) (hn : xs.length ≤ 1000000) (hc : NumsAt w g off xs) :
  Calls Tryz.prog 12 #[.slice (some ⟨g, off, none⟩) xs.length cap] w fun e w' => e = .returned (.int .i64 (firstE xs)) ∧ w = w' := by
 have Hc := Lib.hid hc
 clear hc
 go_enter Tryz.func12, Tryz.ntmps12
 go_wp2_with fail
 go_loop [7] (fun i => ∃ k : Nat, k ≤ xs.length ∧ i = .int .i64 k ∧ Hid (∀ (i : Nat) (y : Int), i < k → xs[i]? = some y → y = 0)) (fun i => xs.length - (intOf i).toNat)
 case atStart => exact ⟨0, Nat.zero_le _, rfl, Lib.hid fun i y hi => by omega⟩
 case round =>
  obtain ⟨k, hk, rfl, H0⟩ := hrel; by_cases hlt : k < xs.length
  ·obtain ⟨x, hx⟩ : ∃ x, xs[k]? = some x := ⟨xs[k], List.getElem?_eq_getElem hlt⟩
   have hcell := Hc.out k x hx; have Hx := Lib.hid hx; clear hx; by_cases hz : x = 0
   ·subst hz
    go_wp2_with fail
    go_round
    case rel => exact ⟨k + 1, by omega, by go_num, Lib.hid fun i y hi hy => by
     rcases Nat.lt_succ_iff_lt_or_eq.1 hi with h | rfl
     ·exact H0.out i y h hy
     ·rw [Hx.out] at hy; exact (Option.some.inj hy).symm⟩
    case measure => simp [intOf]; omega
   ·have e1 : (x != 0) = true := by simp [hz]
    have Hz := Lib.hid hz; clear hz; go_wp2_with fail
    go_ret
    exact ⟨ret_int (firstE_hit Hx.out H0.out Hz.out).symm, rfl⟩
  ·obtain rfl : k = xs.length := by omega
   go_wp2_with fail
   go_ret
   exact ⟨ret_int (firstE_none fun i y hy => H0.out i y (List.getElem?_eq_some_iff.1 hy).1 hy).symm, rfl⟩

set_option maxRecDepth 100000 in
set_option maxHeartbeats 400000 in
theorem in_calls (n low high : Int) (w : World) :
  Calls Tryz.prog 103 #[.int .i64 n, .int .i64 low, .int .i64 high] w fun e w' => e = .returned (.bool (betwB n low high)) ∧ w = w' := by
 by_cases h1 : low ≤ n
 ·by_cases h2 : n ≤ high
  ·go_enter Tryz.func103, Tryz.ntmps103
   go_wp2
   go_ret
   exact ⟨ret_bool (by simp [betwB, h1, h2]), rfl⟩
  ·go_enter Tryz.func103, Tryz.ntmps103
   go_wp2
   go_ret
   exact ⟨ret_bool (by simp [betwB, h1, h2]), rfl⟩
 ·go_enter Tryz.func103, Tryz.ntmps103
  go_wp2
  go_ret
  exact ⟨ret_bool (by simp [betwB]; omega), rfl⟩
/-- Does a byte stand in a string? -/
def inB (some : ByteArray) (x : Int) : Bool := decide (0 ≤ Lib.indexByte some.data.toList x.toNat.toUInt8)
def onlyB (s some : ByteArray) : Bool := (List.range s.size).all fun i => inB some (byteAt s i)
set_option maxRecDepth 100000 in
set_option maxHeartbeats 1000000 in
theorem only_calls (s some : ByteArray) (w : World) (hsz : s.size ≤ 1000000) :
  Calls Tryz.prog 104 #[.string s, .string some] w fun e w' => e = .returned (.bool (onlyB s some)) ∧ w = w' := by
 go_enter Tryz.func104, Tryz.ntmps104
 go_wp2_with fail
 go_loop [8] (fun i => ∃ k : Nat, k ≤ s.size ∧ i = .int .i64 k ∧ Hid (∀ i, i < k → inB some (byteAt s i) = true)) (fun i => s.size - (intOf i).toNat)
 case atStart => exact ⟨0, Nat.zero_le _, rfl, Lib.hid fun i hi => by omega⟩
 case round =>
  obtain ⟨k, hk, rfl, Hok⟩ := hrel; by_cases hlt : k < s.size
  ·have Hx := Lib.hid (show byteAt s k = (s[k].toNat : Int) by rw [byteAt, dif_pos hlt])
   by_cases hin : inB some (s[k].toNat : Int) = true
   ·have e1 : 0 ≤ Lib.indexByte some.data.toList s[k] := by unfold inB at hin; simpa using hin
    have Hnext := Lib.hid (show ∀ i, i < k + 1 → inB some (byteAt s i) = true from fun i hi => by
     rcases Nat.lt_succ_iff_lt_or_eq.1 hi with h' | rfl
     ·exact Hok.out i h'
     ·rw [Hx.out]; exact hin)
    clear hin; go_wp2_with fail
    refine (Tryz.strings_IndexByte _ _ _).mono ?_; rintro e w' ⟨rfl, h⟩; subst h; go_wp2_with fail
    go_round
    case rel => exact ⟨k + 1, by omega, by go_num, Hnext⟩
    case measure => simp [intOf]; omega
   ·have e1 : Lib.indexByte some.data.toList s[k] < 0 := by unfold inB at hin; simpa using hin
    have Hfail := Lib.hid (show onlyB s some = false by
     unfold onlyB; rw [List.all_eq_false]; exact ⟨k, List.mem_range.2 hlt, by rw [Hx.out]; exact hin⟩)
    clear hin; go_wp2_with fail
    refine (Tryz.strings_IndexByte _ _ _).mono ?_; rintro e w' ⟨rfl, h⟩; subst h; go_wp2_with fail
    go_ret
    exact ⟨ret_bool Hfail.out.symm, rfl⟩
  ·obtain rfl : k = s.size := by omega
   have Hall := Lib.hid (show onlyB s some = true by
    unfold onlyB; rw [List.all_eq_true]; exact fun i hi => Hok.out i (List.mem_range.1 hi))
   go_wp2_with fail
   go_ret
   exact ⟨ret_bool Hall.out.symm, rfl⟩

def lettersS : ByteArray := ⟨#[97, 98, 99, 100, 101, 102, 103, 104, 105, 106, 107, 108, 109, 110, 111, 112, 113, 114, 115, 116, 117, 118, 119, 120, 121, 122]⟩
def keyS : ByteArray := ⟨#[97, 98, 99, 100, 101, 102, 103, 104, 105, 106, 107, 108, 109, 110, 111, 112, 113, 114, 115, 116, 117, 118, 119, 120, 121, 122, 48, 49, 50, 51, 52, 53, 54, 55, 56, 57, 45, 95]⟩
theorem inB_letters (x : UInt8) : inB lettersS (x.toNat : Int) = smallB (x.toNat : Int) := by
 have h : ∀ x : Fin 256, inB lettersS (x.val : Int) = smallB (x.val : Int) := by decide +kernel
 exact h ⟨x.toNat, x.toNat_lt⟩
theorem inB_key (x : UInt8) : inB keyS (x.toNat : Int) = okC (x.toNat : Int) := by
 have h : ∀ x : Fin 256, inB keyS (x.val : Int) = okC (x.val : Int) := by decide +kernel
 exact h ⟨x.toNat, x.toNat_lt⟩
end Go.Proofs.YtfcaokpadodijaaGreat
/- The reference's Key, Rising, ListFault. -/
namespace Go.Proofs.YtfcaokpadodijaaGreat
open Go.RowKit

def headS (s : ByteArray) : ByteArray := s.extract 0 1
theorem onlyB_key (s : ByteArray) : onlyB s keyS = (List.range s.size).all fun i => okC (byteAt s i) := by
 unfold onlyB
 apply Bool.eq_iff_iff.2
 rw [List.all_eq_true, List.all_eq_true]
 constructor
 ·intro h i hi
  have := h i hi
  rw [byteAt, dif_pos (List.mem_range.1 hi)] at this ⊢
  rwa [inB_key] at this
 ·intro h i hi
  have := h i hi
  rw [byteAt, dif_pos (List.mem_range.1 hi)] at this ⊢
  rwa [inB_key]
theorem headS_size {s : ByteArray} (h : 1 ≤ s.size) : (headS s).size = 1 := by
 unfold headS; rw [ByteArray.size_extract]; omega
theorem onlyB_head {s : ByteArray} (h : 1 ≤ s.size) : onlyB (headS s) lettersS = smallB (byteAt s 0) := by
 have hs := headS_size h
 unfold onlyB
 rw [hs]
 have e : byteAt (headS s) 0 = byteAt s 0 := by
  rw [byteAt, byteAt, dif_pos (by omega), dif_pos (by omega)]
  unfold headS; rw [ByteArray.getElem_extract]
 simp only [List.range_one, List.all_cons, List.all_nil, Bool.and_true, e]
 rw [byteAt, dif_pos (by omega)]
 exact inB_letters _
set_option maxRecDepth 100000 in
set_option maxHeartbeats 1000000 in
theorem keyR_calls (s : ByteArray) (w : World) (hsz : s.size ≤ 1000000) :
  Calls Tryz.prog 54 #[.string s] w fun e w' => e = .returned (.bool (keyB s)) ∧ w = w' := by
 by_cases h1 : betwB (s.size : Int) 1 40 = true
 ·have hr : 1 ≤ s.size ∧ s.size ≤ 40 := by unfold betwB at h1; simp at h1; omega
  have HK := Lib.hid (show keyB s = (onlyB (headS s) lettersS && onlyB s keyS) by
   rw [onlyB_head hr.1, onlyB_key, keyB, decide_eq_true hr.1, decide_eq_true hr.2]; rfl)
  have HH := Lib.hid (headS_size hr.1); obtain ⟨h1', h2'⟩ := hr; have H1 := Lib.hid h1; clear h1; by_cases h2 : onlyB (headS s) lettersS = true
  ·have H2 := Lib.hid h2
   clear h2; go_enter Tryz.func54, Tryz.ntmps54; go_wp2_with fail
   refine (in_calls _ _ _ _).mono ?_; rintro e w' ⟨rfl, rfl⟩; rw [H1.out]; go_wp2_with fail
   refine (only_calls (headS s) lettersS _ (by rw [HH.out]; omega)).mono ?_
   rintro e w' ⟨rfl, rfl⟩; rw [H2.out]; go_wp2_with fail
   refine (only_calls s keyS _ hsz).mono ?_; rintro e w' ⟨rfl, rfl⟩; go_wp2_with fail
   go_ret
   exact ⟨ret_bool (by rw [HK.out, H2.out]; rfl), rfl⟩
  ·have H2 := Lib.hid (show onlyB (headS s) lettersS = false by simpa using h2)
   clear h2; go_enter Tryz.func54, Tryz.ntmps54; go_wp2_with fail
   refine (in_calls _ _ _ _).mono ?_; rintro e w' ⟨rfl, rfl⟩; rw [H1.out]; go_wp2_with fail
   refine (only_calls (headS s) lettersS _ (by rw [HH.out]; omega)).mono ?_
   rintro e w' ⟨rfl, rfl⟩; rw [H2.out]; go_wp2_with fail
   go_ret
   exact ⟨ret_bool (by rw [HK.out, H2.out]; rfl), rfl⟩
 ·have H1 := Lib.hid (show betwB (s.size : Int) 1 40 = false by simpa using h1)
  have HK := Lib.hid (show keyB s = false by
   unfold betwB at h1
   simp only [Bool.and_eq_true, decide_eq_true_eq, not_and, Int.not_le] at h1
   unfold keyB; by_cases h : 1 ≤ s.size
   ·have := h1 (by omega)
    rw [decide_eq_false (show ¬ s.size ≤ 40 by omega)]; simp
   ·rw [decide_eq_false h]; simp)
  clear h1; go_enter Tryz.func54, Tryz.ntmps54; go_wp2_with fail
  refine (in_calls _ _ _ _).mono ?_; rintro e w' ⟨rfl, rfl⟩; rw [H1.out]; go_wp2_with fail
  go_ret
  exact ⟨ret_bool HK.out.symm, rfl⟩

/-- The program's and the reference's order of a list. -/
theorem risF_key {ks : List ByteArray} {k : Nat} {s : ByteArray} (hk : ks[k]? = some s) (h : keyB s = false) : risF ks k = 5 := by
 have e : strAt ks k = s := by unfold strAt; rw [hk]; rfl
 unfold risF
 rw [e, h]
 simp [unlessE, firstE]
theorem risF_fall {ks : List ByteArray} {k : Nat} {s p : ByteArray} (hk : ks[k]? = some s) (hp : ks[k - 1]? = some p) (h : keyB s = true) (h0 : k ≠ 0) (hl : ltS p s = false) : risF ks k = 7 := by
 have e : strAt ks k = s := by unfold strAt; rw [hk]; rfl
 have e' : strAt ks (k - 1) = p := by unfold strAt; rw [hp]; rfl
 unfold risF
 rw [e, e', h, hl]
 simp [unlessE, firstE, h0]
theorem risF_ok {ks : List ByteArray} {k : Nat} {s : ByteArray} (hk : ks[k]? = some s) (h : keyB s = true) (hl : k = 0 ∨ ∃ p, ks[k - 1]? = some p ∧ ltS p s = true) : risF ks k = 0 := by
 have e : strAt ks k = s := by unfold strAt; rw [hk]; rfl
 unfold risF
 rw [e, h]
 rcases hl with rfl | ⟨p, hp, hl⟩
 ·simp [unlessE, firstE]
 ·have e' : strAt ks (k - 1) = p := by unfold strAt; rw [hp]; rfl
  rw [e', hl]
  simp [unlessE, firstE]

set_option maxRecDepth 100000 in
set_option maxHeartbeats 2000000 in
theorem risingR_calls (lo : Nat) (v : Value) (ks : List ByteArray) (w : World) (hv : Strs w lo v ks) (hk : ∀ k ∈ ks, k.size ≤ 1000) (hn : ks.length ≤ 1000000) :
  Calls Tryz.prog 106 #[v] w fun e w' => e = .returned (.int .i64 (errsTo (risF ks) ks.length)) ∧ w = w' := by
 rcases strs_at hv with ⟨rfl, rfl⟩ | ⟨g, off, cap, rfl, hlo, hg, hn', hcell⟩
 ·clear hv hk
  go_enter Tryz.func106, Tryz.ntmps106; go_wp2
  refine wp_loop_rounds 1 ?_; rw [rounds_succ]; go_wp2
  go_ret
  exact ⟨rfl, rfl⟩
 ·have Hc := Lib.hid hcell
  have Hk := Lib.hid (show ∀ (i : Nat) (k : ByteArray), ks[i]? = some k → k.size ≤ 1000 from fun i k h => hk k (List.mem_of_getElem? h))
  clear hcell hv hk; go_enter Tryz.func106, Tryz.ntmps106; go_wp2_with fail
  go_loop [7] (fun i => ∃ k : Nat, k ≤ ks.length ∧ i = .int .i64 k ∧ Hid (∀ i, i < k → risF ks i = 0)) (fun i => ks.length - (intOf i).toNat)
  case atStart => exact ⟨0, Nat.zero_le _, rfl, Lib.hid fun i hi => by omega⟩
  case round =>
   obtain ⟨k, hk, rfl, H0⟩ := hrel; by_cases hlt : k < ks.length
   ·obtain ⟨s, hs⟩ : ∃ s, ks[k]? = some s := ⟨ks[k], List.getElem?_eq_getElem hlt⟩
    have hcs := Hc.out k s hs; have hsz := Hk.out k s hs; have Hs := Lib.hid hs
    have Hnext := Lib.hid (show risF ks k = 0 → ∀ i, i < k + 1 → risF ks i = 0 from fun h i hi => by
     rcases Nat.lt_succ_iff_lt_or_eq.1 hi with h' | rfl
     ·exact H0.out i h'
     ·exact h)
    have Hhit := Lib.hid (show risF ks k ≠ 0 → errsTo (risF ks) ks.length = risF ks k from fun h => errsTo_hit hlt H0.out h)
    clear hs; by_cases hkey : keyB s = true
    ·have HK := Lib.hid hkey
     clear hkey; by_cases hz : k = 0
     ·have Hgo := Lib.hid (Hnext.out (risF_ok Hs.out HK.out (.inl hz)))
      have hcs' : w.cell? ⟨g, off, none⟩ = some (.string s) := by have := hcs; rw [hz] at this; exact this
      go_wp2_with fail
      refine (keyR_calls s w (by omega)).mono ?_
      rintro e w' ⟨rfl, rfl⟩; rw [HK.out]; go_wp2_with fail
      go_round
      case rel => exact ⟨k + 1, by omega, by go_num, Hgo⟩
      case measure => simp [intOf]; omega
     ·obtain ⟨p, hp⟩ : ∃ p, ks[k - 1]? = some p := ⟨_, List.getElem?_eq_getElem (show k - 1 < ks.length by omega)⟩
      have hcp := Hc.out (k - 1) p hp; have Hp := Lib.hid hp; have wr : IntKind.i64.wrap ((k : Int) - 1) = ((k - 1 : Nat) : Int) := by rw [IntWalk.i64_in _ (by omega)]; omega
      have wr2 : ((k - 1 : Nat) : Int) < (ks.length : Int) := by omega
      have Hz := Lib.hid hz; clear hp; by_cases hl : ltS p s = true
      ·have e1 : (Op.bytesLess s.toList p.toList || s.toList == p.toList) = false := by rw [leS_eq, hl]; rfl
       have Hgo := Lib.hid (Hnext.out (risF_ok Hs.out HK.out (.inr ⟨p, Hp.out, hl⟩))); clear hl; go_wp2_with fail
       refine (keyR_calls s w (by omega)).mono ?_
       rintro e w' ⟨rfl, rfl⟩; rw [HK.out]; go_wp2_with fail
       go_round
       case rel => exact ⟨k + 1, by omega, by go_num, Hgo⟩
       case measure => simp [intOf]; omega
      ·have e1 : (Op.bytesLess s.toList p.toList || s.toList == p.toList) = true := by rw [leS_eq, show ltS p s = false by simpa using hl]; rfl
       have H7 := Lib.hid (risF_fall Hs.out Hp.out HK.out Hz.out (show ltS p s = false by simpa using hl))
       clear hl; go_wp2_with fail
       refine (keyR_calls s w (by omega)).mono ?_
       rintro e w' ⟨rfl, rfl⟩; rw [HK.out]; go_wp2_with fail
       go_ret
       exact ⟨ret_int (by rw [Hhit.out (by rw [H7.out]; decide), H7.out]), rfl⟩
    ·have HK := Lib.hid (show keyB s = false by simpa using hkey)
     clear hkey; go_wp2_with fail
     refine (keyR_calls s w (by omega)).mono ?_
     rintro e w' ⟨rfl, rfl⟩; rw [HK.out]; go_wp2_with fail
     go_ret
     exact ⟨ret_int (by rw [Hhit.out (by rw [risF_key Hs.out HK.out]; decide), risF_key Hs.out HK.out]), rfl⟩
   ·obtain rfl : k = ks.length := by omega
    go_wp2_with fail
    go_ret
    exact ⟨ret_int (errsTo_none H0.out).symm, rfl⟩
end Go.Proofs.YtfcaokpadodijaaGreat
namespace Go.Proofs.YtfcaokpadodijaaGreat
open Go.RowKit

def lfE (need : Bool) (ks : List ByteArray) : Int := if need && decide (ks.length = 0) then 8 else eachE ks.length 10 (risF ks)
set_option maxRecDepth 100000 in
set_option maxHeartbeats 1000000 in
theorem listFault_calls (need : Bool) (lo : Nat) (v : Value) (ks : List ByteArray) (w : World) (hv : Strs w lo v ks) (hk : ∀ k ∈ ks, k.size ≤ 1000) (hn : ks.length ≤ 1000000) :
  Calls Tryz.prog 57 #[v, .bool need] w fun e w' => e = .returned (.int .i64 (lfE need ks)) ∧ w = w' := by
 obtain ⟨a, c, rfl⟩ := strs_shape' hv
 have HC := Lib.hid (risingR_calls lo _ ks w hv hk hn)
 clear hv hk
 by_cases h10 : 10 < ks.length
 ·have HE := Lib.hid (show lfE need ks = 2 by
   unfold lfE eachE
   rw [decide_eq_false (show ¬ ks.length = 0 by omega), if_pos (show (10 : Int) < ks.length by omega)]
   cases need <;> rfl)
  cases need <;>
  ·go_enter Tryz.func57, Tryz.ntmps57
   go_wp2_with fail
   go_ret
   exact ⟨ret_int HE.out.symm, rfl⟩
 ·have HX := Lib.hid (show eachE ks.length 10 (risF ks) = errsTo (risF ks) ks.length by unfold eachE; rw [if_neg (by omega)]; rfl)
  cases need
  ·have HE := Lib.hid (show lfE false ks = errsTo (risF ks) ks.length by rw [← HX.out]; rfl)
   go_enter Tryz.func57, Tryz.ntmps57; go_wp2_with fail
   refine HC.out.mono ?_; rintro e w' ⟨rfl, rfl⟩; go_wp2_with fail
   go_ret
   exact ⟨ret_int HE.out.symm, rfl⟩
  ·by_cases h0 : ks.length = 0
   ·have HE := Lib.hid (show lfE true ks = 8 by unfold lfE; rw [decide_eq_true h0]; rfl)
    have h0' : ((ks.length : Int) == 0) = true := by rw [beq_iff_eq]; omega
    go_enter Tryz.func57, Tryz.ntmps57; go_wp2_with fail
    go_ret
    exact ⟨ret_int HE.out.symm, rfl⟩
   ·have HE := Lib.hid (show lfE true ks = errsTo (risF ks) ks.length by
     rw [← HX.out]; unfold lfE; rw [decide_eq_false h0]; rfl)
    have h0' : ((ks.length : Int) == 0) = false := by rw [beq_eq_false_iff_ne]; omega
    clear h0; go_enter Tryz.func57, Tryz.ntmps57; go_wp2_with fail
    refine HC.out.mono ?_; rintro e w' ⟨rfl, rfl⟩; go_wp2_with fail
    go_ret
    exact ⟨ret_int HE.out.symm, rfl⟩

theorem lt_empty {s : ByteArray} (h : keyB s = true) : ltS ⟨#[]⟩ s = true := by
 unfold keyB at h
 simp only [Bool.and_eq_true, decide_eq_true_eq] at h
 unfold ltS
 rw [ByteArray.toList_eq, ByteArray.toList_eq]
 cases hs : s.data.toList with
 | nil =>
  have := h.1.1.1
  have e : s.size = 0 := by
   show s.data.size = 0
   rw [← Array.length_toList, hs]; rfl
  omega
 | cons => rfl
end Go.Proofs.YtfcaokpadodijaaGreat
