/- ManySpots: one player with nearly as many positions as there can be, and where they appeared. -/
import Derived.Test.YtmjkbmkjnbpgeaaGreatDoorPa
import Derived.Test.YtmjkbmkjnbpgeaaGreatDoorBk
namespace Go.Proofs.YtmjkbmkjnbpgeaaGreatDoor
open Go.RowKit

/-- The positions pa, pb, .. -/
def spotsL (n : Nat) : List ByteArray := (List.range n).map fun j => ⟨#[112, (97 + j).toUInt8]⟩
theorem spotsL_succ (n : Nat) : spotsL (n + 1) = spotsL n ++ [⟨#[112, (97 + n).toUInt8]⟩] := by unfold spotsL; rw [List.range_succ, List.map_append]; rfl
theorem spotsL_length (n : Nat) : (spotsL n).length = n := by simp [spotsL]
def K_ann' : ByteArray := ⟨#[97, 110, 110]⟩
def N_ann : ByteArray := ⟨#[65, 110, 110]⟩
theorem ann_ok : NameOk N_ann := by decide +kernel
/-- What ManySpots hands back. -/
def manyP (n : Nat) : PD := ⟨K_ann', N_ann, spotsL n⟩
theorem manyP_small (n : Nat) (h : n ≤ 10) : SmallP (manyP n) := by
  refine ⟨by show (3 : Nat) ≤ 1000; omega, by show (3 : Nat) ≤ 1000; omega, by show (spotsL n).length ≤ 1000; rw [spotsL_length]; omega, fun k hk => ?_⟩
  have hk : k ∈ spotsL n := hk
  unfold spotsL at hk
  obtain ⟨j, _, rfl⟩ := List.mem_map.1 hk
  show (2 : Nat) ≤ 1000
  omega
theorem plays_row (w : World) (p : PD) (x : Value) (lo : Nat) (h : Strs w lo x p.pos) (hl : lo ≤ w.heap.size) :
    Plays (w.alloc (.cells #[.string p.key, .string p.name, x] 86)) lo (.slice (some ⟨w.heap.size, 0, none⟩) 1 1) [p] := by
  refine ⟨[x], rfl, ?_, ?_⟩
  · refine Rows.mono (Rows.of_owns (rows := [[.string p.key, .string p.name, x]]) ?_ (by simp) (by simp)) hl
    have := World.ownsRow_lit (base := w.heap.size) (e := 86) (size := 3) w #[.string p.key, .string p.name, x] 1 (by simp) (by unfold maxLen; omega) rfl
    simpa using this
  · intro i y q hx hq
    match i, hx, hq with
    | 0, hx, hq =>
      simp at hx hq
      subst hx; subst hq
      exact h.below (below_alloc _ _)
set_option maxRecDepth 100000 in
set_option maxHeartbeats 8000000 in
theorem manySpots_calls (B N : Nat) (w : World) (hs : St w B N) (hN : N ≤ 3990000) :
    Calls Tryz.prog 47 #[.pointer (some ⟨B, 0, none⟩)] w fun e w' => ∃ vp va n ss, e = .returned (.tuple #[vp, va]) ∧ n ≤ 10 ∧ Plays w' w.heap.size vp [manyP n] ∧ Aps w' w.heap.size va ss ∧ ss.length ≤ 27 ∧ (∀ s ∈ ss, OkS s) ∧ St w' B (N + 10) ∧ w.grownBy w' (some B) := by
  obtain ⟨i0, hi, hz0, hz1, hz2⟩ := info_parts info_str
  obtain ⟨j0, hj, hy0, hy1, hy2⟩ := info_parts info_ap
  have hBw := hs.lt
  have Hs := Lib.hid hs
  clear hs
  go_enter Tryz.func47, Tryz.ntmps47
  go_wp2_with fail
  refine (range_calls B N 7 10 _ (Hs.out.alloc _) (by omega) (by omega) (by omega) (by omega)).mono ?_
  rintro e w2 ⟨v, ⟨m, rfl, hm0, hm1⟩, rfl, hs2, hg2⟩
  obtain ⟨X, hX⟩ : ∃ X, X = w.heap.size := ⟨_, rfl⟩
  have hx2 : w2.heap[X]? = some (.cells #[.string K_ann', .string N_ann, .slice none 0 0] 86 (0, 0)) := by
    rw [hX]
    exact (hg2.block w.heap.size (by simp) (by intro e; cases e; omega)).trans (heap_alloc_new w _)
  have hgw2 : w.grownBy w2 (some B) := gb_trans (gb_alloc w _ _) hg2
  have hXB : B < X := by omega
  clear hg2
  have HXw := Lib.hid hX
  go_wp2_with fail
  rw [← hX]
  clear hX
  go_loopw [12] (fun i wr => ∃ (k : Nat) (v : Value), i = .int .i64 k ∧ (k : Int) ≤ m ∧ wr.heap[X]? = some (.cells #[.string K_ann', .string N_ann, v] 86 (0, 0)) ∧ OwnS wr X v (spotsL k) ∧ St wr B (N + 1) ∧ w.grownBy wr (some B)) (fun i _ => 10 - (intOf i).toNat)
  case atStart => exact ⟨0, _, rfl, by omega, hx2, World.ownsRow_nil _ _ _ _, hs2, hgw2⟩
  case round =>
    obtain ⟨k, v, rfl, hkm, hx, hown, hsr, hg⟩ := hrel
    clear hs2 hx2 hgw2
    by_cases hlt : (k : Int) < m
    · have hk10 : k < 10 := by omega
      have Hsp := Lib.hid (spotsL_succ k)
      have Hln := Lib.hid (spotsL_length k)
      clear Hsp Hln
      rcases (show k = 0 ∨ k = 1 ∨ k = 2 ∨ k = 3 ∨ k = 4 ∨ k = 5 ∨ k = 6 ∨ k = 7 ∨ k = 8 ∨ k = 9 by omega) with rfl | rfl | rfl | rfl | rfl | rfl | rfl | rfl | rfl | rfl
      · have c2 : wr.cell? ⟨X, 2, none⟩ = some v := by rw [cell_of_row wr _ _ _ _ _ hx]; rfl
        have cf : wr.frozen? ⟨X, 2, none⟩ = false := by simp [World.frozen?, hx]
        have Hx := Lib.hid hx
        have hXl := lt_of_heap hx
        have hobl := own_block hown
        have hvX : v.ownBlock ≠ some X := by
          intro e
          obtain ⟨_, cur, h⟩ := hobl X e
          rw [hx] at h
          cases h
        have hgs := hg.size
        clear hx
        go_wp2_with (at_builtin; refine wpList_append_own _ rfl _ _ 35 rfl X 9 i0 (.string ⟨#[]⟩) 1 16 Tryz.underlying35 hi hz0 hz1 hz2 rfl (by decide) v 0 ((spotsL 0).map .string) rfl (World.ownsRow.alloc (by simpa [OwnS, spotsL_length] using hown) _) ⟨wr.heap.size, 0, none⟩ 1 1 [.string (⟨#[112]⟩ ++ Go.Utf8.encode 97)] rfl rfl ?c1 ?c2 ?c3 ?c4 ?c5 ?_)
        case c1 => exact cell_one_new _ _ _
        case c2 => simp [Value.oneCell']
        case c3 => unfold maxLen; omega
        case c4 => omega
        case c5 => simp; omega
        intro v' w4 hown4 hgrow _
        rw [show ((⟨#[112]⟩ : ByteArray) ++ Go.Utf8.encode 97) = ⟨#[112, 97]⟩ from by decide +kernel] at hown4
        have hrow : ∀ r, v.ownBlock = some r → r ≠ X ∧ X ≤ r := fun r hr => ⟨fun e => hvX (by rw [hr, e]), (hobl r hr).1⟩
        have hx4 : w4.heap[X]? = some (.cells #[.string K_ann', .string N_ann, v] 86 (0, 0)) := (hgrow.block X (by simp; omega) (fun e => hvX e.symm)).trans ((heap_alloc_old wr _ hXl).trans Hx.out)
        have cf4 : w4.frozen? ⟨X, 2, none⟩ = false := by simp [World.frozen?, hx4]
        have c24 : w4.cell? ⟨X, 2, none⟩ = some v := by rw [cell_of_row w4 _ _ _ _ _ hx4]; rfl
        have hs4 : St w4 B (N + 1) := (hsr.alloc (.cells #[.string (⟨#[112]⟩ ++ Go.Utf8.encode 97)] 9)).grown hgrow fun r hr => by have := (hrow r hr).2; omega
        have hg4 : w.grownBy w4 (some B) := gb_then (gb_trans hg (gb_alloc wr (.cells #[.string (⟨#[112]⟩ ++ Go.Utf8.encode 97)] 9) _)) hgrow fun r hr => by have := (hrow r hr).2; have := HXw.out; omega
        have hown5 : OwnS w4 X v' (spotsL (0 + 1)) := by
          have : (spotsL (0 + 1)).map Value.string = (spotsL 0).map Value.string ++ [.string ⟨#[112, 97]⟩] := by rw [spotsL_succ, List.map_append]; rfl
          unfold OwnS
          rw [this, spotsL_length]
          exact hown4
        have hvX4 : v'.ownBlock ≠ some X := by
          intro e
          obtain ⟨_, cur, h⟩ := own_block hown5 X e
          rw [hx4] at h
          cases h
        obtain ⟨oa, oc, hv4⟩ := owns_shape hown5
        rw [spotsL_length] at hv4
        subst hv4
        clear hown hobl hsr hg hgs Hx hown4 hgrow hrow hvX
        go_wp2_with fail
        have hgx := gb_setCell w4 X 2 (.slice oa (0 + 1) oc)
        have hx5 : (w4.setCell ⟨X, 2, none⟩ (.slice oa (0 + 1) oc)).heap[X]? = some (.cells #[.string K_ann', .string N_ann, .slice oa (0 + 1) oc] 86 (0, 0)) := by simp [World.setCell, Array.getElem?_modify, hx4]
        have hs5 : St (w4.setCell ⟨X, 2, none⟩ (.slice oa (0 + 1) oc)) B (N + 1) := hs4.grown hgx fun r hr => by cases hr; exact hXB
        have hg5 : w.grownBy (w4.setCell ⟨X, 2, none⟩ (.slice oa (0 + 1) oc)) (some B) := gb_then hg4 hgx fun r hr => by cases hr; have := HXw.out; omega
        have hown6 := World.ownsRow.kept hown5 hgx (.inr (by simpa using hvX4))
        clear hx4 c24 cf4 hs4 hg4 hown5
        go_roundw
        case rel => exact ⟨0 + 1, .slice oa (0 + 1) oc, by go_num, by omega, hx5, hown6, hs5, hg5⟩
        case measure => simp [intOf]
      · have c2 : wr.cell? ⟨X, 2, none⟩ = some v := by rw [cell_of_row wr _ _ _ _ _ hx]; rfl
        have cf : wr.frozen? ⟨X, 2, none⟩ = false := by simp [World.frozen?, hx]
        have Hx := Lib.hid hx
        have hXl := lt_of_heap hx
        have hobl := own_block hown
        have hvX : v.ownBlock ≠ some X := by
          intro e
          obtain ⟨_, cur, h⟩ := hobl X e
          rw [hx] at h
          cases h
        have hgs := hg.size
        clear hx
        go_wp2_with (at_builtin; refine wpList_append_own _ rfl _ _ 35 rfl X 9 i0 (.string ⟨#[]⟩) 1 16 Tryz.underlying35 hi hz0 hz1 hz2 rfl (by decide) v 1 ((spotsL 1).map .string) rfl (World.ownsRow.alloc (by simpa [OwnS, spotsL_length] using hown) _) ⟨wr.heap.size, 0, none⟩ 1 1 [.string (⟨#[112]⟩ ++ Go.Utf8.encode 98)] rfl rfl ?c1 ?c2 ?c3 ?c4 ?c5 ?_)
        case c1 => exact cell_one_new _ _ _
        case c2 => simp [Value.oneCell']
        case c3 => unfold maxLen; omega
        case c4 => omega
        case c5 => simp; omega
        intro v' w4 hown4 hgrow _
        rw [show ((⟨#[112]⟩ : ByteArray) ++ Go.Utf8.encode 98) = ⟨#[112, 98]⟩ from by decide +kernel] at hown4
        have hrow : ∀ r, v.ownBlock = some r → r ≠ X ∧ X ≤ r := fun r hr => ⟨fun e => hvX (by rw [hr, e]), (hobl r hr).1⟩
        have hx4 : w4.heap[X]? = some (.cells #[.string K_ann', .string N_ann, v] 86 (0, 0)) := (hgrow.block X (by simp; omega) (fun e => hvX e.symm)).trans ((heap_alloc_old wr _ hXl).trans Hx.out)
        have cf4 : w4.frozen? ⟨X, 2, none⟩ = false := by simp [World.frozen?, hx4]
        have c24 : w4.cell? ⟨X, 2, none⟩ = some v := by rw [cell_of_row w4 _ _ _ _ _ hx4]; rfl
        have hs4 : St w4 B (N + 1) := (hsr.alloc (.cells #[.string (⟨#[112]⟩ ++ Go.Utf8.encode 98)] 9)).grown hgrow fun r hr => by have := (hrow r hr).2; omega
        have hg4 : w.grownBy w4 (some B) := gb_then (gb_trans hg (gb_alloc wr (.cells #[.string (⟨#[112]⟩ ++ Go.Utf8.encode 98)] 9) _)) hgrow fun r hr => by have := (hrow r hr).2; have := HXw.out; omega
        have hown5 : OwnS w4 X v' (spotsL (1 + 1)) := by
          have : (spotsL (1 + 1)).map Value.string = (spotsL 1).map Value.string ++ [.string ⟨#[112, 98]⟩] := by rw [spotsL_succ, List.map_append]; rfl
          unfold OwnS
          rw [this, spotsL_length]
          exact hown4
        have hvX4 : v'.ownBlock ≠ some X := by
          intro e
          obtain ⟨_, cur, h⟩ := own_block hown5 X e
          rw [hx4] at h
          cases h
        obtain ⟨oa, oc, hv4⟩ := owns_shape hown5
        rw [spotsL_length] at hv4
        subst hv4
        clear hown hobl hsr hg hgs Hx hown4 hgrow hrow hvX
        go_wp2_with fail
        have hgx := gb_setCell w4 X 2 (.slice oa (1 + 1) oc)
        have hx5 : (w4.setCell ⟨X, 2, none⟩ (.slice oa (1 + 1) oc)).heap[X]? = some (.cells #[.string K_ann', .string N_ann, .slice oa (1 + 1) oc] 86 (0, 0)) := by simp [World.setCell, Array.getElem?_modify, hx4]
        have hs5 : St (w4.setCell ⟨X, 2, none⟩ (.slice oa (1 + 1) oc)) B (N + 1) := hs4.grown hgx fun r hr => by cases hr; exact hXB
        have hg5 : w.grownBy (w4.setCell ⟨X, 2, none⟩ (.slice oa (1 + 1) oc)) (some B) := gb_then hg4 hgx fun r hr => by cases hr; have := HXw.out; omega
        have hown6 := World.ownsRow.kept hown5 hgx (.inr (by simpa using hvX4))
        clear hx4 c24 cf4 hs4 hg4 hown5
        go_roundw
        case rel => exact ⟨1 + 1, .slice oa (1 + 1) oc, by go_num, by omega, hx5, hown6, hs5, hg5⟩
        case measure => simp [intOf]
      · have c2 : wr.cell? ⟨X, 2, none⟩ = some v := by rw [cell_of_row wr _ _ _ _ _ hx]; rfl
        have cf : wr.frozen? ⟨X, 2, none⟩ = false := by simp [World.frozen?, hx]
        have Hx := Lib.hid hx
        have hXl := lt_of_heap hx
        have hobl := own_block hown
        have hvX : v.ownBlock ≠ some X := by
          intro e
          obtain ⟨_, cur, h⟩ := hobl X e
          rw [hx] at h
          cases h
        have hgs := hg.size
        clear hx
        go_wp2_with (at_builtin; refine wpList_append_own _ rfl _ _ 35 rfl X 9 i0 (.string ⟨#[]⟩) 1 16 Tryz.underlying35 hi hz0 hz1 hz2 rfl (by decide) v 2 ((spotsL 2).map .string) rfl (World.ownsRow.alloc (by simpa [OwnS, spotsL_length] using hown) _) ⟨wr.heap.size, 0, none⟩ 1 1 [.string (⟨#[112]⟩ ++ Go.Utf8.encode 99)] rfl rfl ?c1 ?c2 ?c3 ?c4 ?c5 ?_)
        case c1 => exact cell_one_new _ _ _
        case c2 => simp [Value.oneCell']
        case c3 => unfold maxLen; omega
        case c4 => omega
        case c5 => simp; omega
        intro v' w4 hown4 hgrow _
        rw [show ((⟨#[112]⟩ : ByteArray) ++ Go.Utf8.encode 99) = ⟨#[112, 99]⟩ from by decide +kernel] at hown4
        have hrow : ∀ r, v.ownBlock = some r → r ≠ X ∧ X ≤ r := fun r hr => ⟨fun e => hvX (by rw [hr, e]), (hobl r hr).1⟩
        have hx4 : w4.heap[X]? = some (.cells #[.string K_ann', .string N_ann, v] 86 (0, 0)) := (hgrow.block X (by simp; omega) (fun e => hvX e.symm)).trans ((heap_alloc_old wr _ hXl).trans Hx.out)
        have cf4 : w4.frozen? ⟨X, 2, none⟩ = false := by simp [World.frozen?, hx4]
        have c24 : w4.cell? ⟨X, 2, none⟩ = some v := by rw [cell_of_row w4 _ _ _ _ _ hx4]; rfl
        have hs4 : St w4 B (N + 1) := (hsr.alloc (.cells #[.string (⟨#[112]⟩ ++ Go.Utf8.encode 99)] 9)).grown hgrow fun r hr => by have := (hrow r hr).2; omega
        have hg4 : w.grownBy w4 (some B) := gb_then (gb_trans hg (gb_alloc wr (.cells #[.string (⟨#[112]⟩ ++ Go.Utf8.encode 99)] 9) _)) hgrow fun r hr => by have := (hrow r hr).2; have := HXw.out; omega
        have hown5 : OwnS w4 X v' (spotsL (2 + 1)) := by
          have : (spotsL (2 + 1)).map Value.string = (spotsL 2).map Value.string ++ [.string ⟨#[112, 99]⟩] := by rw [spotsL_succ, List.map_append]; rfl
          unfold OwnS
          rw [this, spotsL_length]
          exact hown4
        have hvX4 : v'.ownBlock ≠ some X := by
          intro e
          obtain ⟨_, cur, h⟩ := own_block hown5 X e
          rw [hx4] at h
          cases h
        obtain ⟨oa, oc, hv4⟩ := owns_shape hown5
        rw [spotsL_length] at hv4
        subst hv4
        clear hown hobl hsr hg hgs Hx hown4 hgrow hrow hvX
        go_wp2_with fail
        have hgx := gb_setCell w4 X 2 (.slice oa (2 + 1) oc)
        have hx5 : (w4.setCell ⟨X, 2, none⟩ (.slice oa (2 + 1) oc)).heap[X]? = some (.cells #[.string K_ann', .string N_ann, .slice oa (2 + 1) oc] 86 (0, 0)) := by simp [World.setCell, Array.getElem?_modify, hx4]
        have hs5 : St (w4.setCell ⟨X, 2, none⟩ (.slice oa (2 + 1) oc)) B (N + 1) := hs4.grown hgx fun r hr => by cases hr; exact hXB
        have hg5 : w.grownBy (w4.setCell ⟨X, 2, none⟩ (.slice oa (2 + 1) oc)) (some B) := gb_then hg4 hgx fun r hr => by cases hr; have := HXw.out; omega
        have hown6 := World.ownsRow.kept hown5 hgx (.inr (by simpa using hvX4))
        clear hx4 c24 cf4 hs4 hg4 hown5
        go_roundw
        case rel => exact ⟨2 + 1, .slice oa (2 + 1) oc, by go_num, by omega, hx5, hown6, hs5, hg5⟩
        case measure => simp [intOf]
      · have c2 : wr.cell? ⟨X, 2, none⟩ = some v := by rw [cell_of_row wr _ _ _ _ _ hx]; rfl
        have cf : wr.frozen? ⟨X, 2, none⟩ = false := by simp [World.frozen?, hx]
        have Hx := Lib.hid hx
        have hXl := lt_of_heap hx
        have hobl := own_block hown
        have hvX : v.ownBlock ≠ some X := by
          intro e
          obtain ⟨_, cur, h⟩ := hobl X e
          rw [hx] at h
          cases h
        have hgs := hg.size
        clear hx
        go_wp2_with (at_builtin; refine wpList_append_own _ rfl _ _ 35 rfl X 9 i0 (.string ⟨#[]⟩) 1 16 Tryz.underlying35 hi hz0 hz1 hz2 rfl (by decide) v 3 ((spotsL 3).map .string) rfl (World.ownsRow.alloc (by simpa [OwnS, spotsL_length] using hown) _) ⟨wr.heap.size, 0, none⟩ 1 1 [.string (⟨#[112]⟩ ++ Go.Utf8.encode 100)] rfl rfl ?c1 ?c2 ?c3 ?c4 ?c5 ?_)
        case c1 => exact cell_one_new _ _ _
        case c2 => simp [Value.oneCell']
        case c3 => unfold maxLen; omega
        case c4 => omega
        case c5 => simp; omega
        intro v' w4 hown4 hgrow _
        rw [show ((⟨#[112]⟩ : ByteArray) ++ Go.Utf8.encode 100) = ⟨#[112, 100]⟩ from by decide +kernel] at hown4
        have hrow : ∀ r, v.ownBlock = some r → r ≠ X ∧ X ≤ r := fun r hr => ⟨fun e => hvX (by rw [hr, e]), (hobl r hr).1⟩
        have hx4 : w4.heap[X]? = some (.cells #[.string K_ann', .string N_ann, v] 86 (0, 0)) := (hgrow.block X (by simp; omega) (fun e => hvX e.symm)).trans ((heap_alloc_old wr _ hXl).trans Hx.out)
        have cf4 : w4.frozen? ⟨X, 2, none⟩ = false := by simp [World.frozen?, hx4]
        have c24 : w4.cell? ⟨X, 2, none⟩ = some v := by rw [cell_of_row w4 _ _ _ _ _ hx4]; rfl
        have hs4 : St w4 B (N + 1) := (hsr.alloc (.cells #[.string (⟨#[112]⟩ ++ Go.Utf8.encode 100)] 9)).grown hgrow fun r hr => by have := (hrow r hr).2; omega
        have hg4 : w.grownBy w4 (some B) := gb_then (gb_trans hg (gb_alloc wr (.cells #[.string (⟨#[112]⟩ ++ Go.Utf8.encode 100)] 9) _)) hgrow fun r hr => by have := (hrow r hr).2; have := HXw.out; omega
        have hown5 : OwnS w4 X v' (spotsL (3 + 1)) := by
          have : (spotsL (3 + 1)).map Value.string = (spotsL 3).map Value.string ++ [.string ⟨#[112, 100]⟩] := by rw [spotsL_succ, List.map_append]; rfl
          unfold OwnS
          rw [this, spotsL_length]
          exact hown4
        have hvX4 : v'.ownBlock ≠ some X := by
          intro e
          obtain ⟨_, cur, h⟩ := own_block hown5 X e
          rw [hx4] at h
          cases h
        obtain ⟨oa, oc, hv4⟩ := owns_shape hown5
        rw [spotsL_length] at hv4
        subst hv4
        clear hown hobl hsr hg hgs Hx hown4 hgrow hrow hvX
        go_wp2_with fail
        have hgx := gb_setCell w4 X 2 (.slice oa (3 + 1) oc)
        have hx5 : (w4.setCell ⟨X, 2, none⟩ (.slice oa (3 + 1) oc)).heap[X]? = some (.cells #[.string K_ann', .string N_ann, .slice oa (3 + 1) oc] 86 (0, 0)) := by simp [World.setCell, Array.getElem?_modify, hx4]
        have hs5 : St (w4.setCell ⟨X, 2, none⟩ (.slice oa (3 + 1) oc)) B (N + 1) := hs4.grown hgx fun r hr => by cases hr; exact hXB
        have hg5 : w.grownBy (w4.setCell ⟨X, 2, none⟩ (.slice oa (3 + 1) oc)) (some B) := gb_then hg4 hgx fun r hr => by cases hr; have := HXw.out; omega
        have hown6 := World.ownsRow.kept hown5 hgx (.inr (by simpa using hvX4))
        clear hx4 c24 cf4 hs4 hg4 hown5
        go_roundw
        case rel => exact ⟨3 + 1, .slice oa (3 + 1) oc, by go_num, by omega, hx5, hown6, hs5, hg5⟩
        case measure => simp [intOf]
      · have c2 : wr.cell? ⟨X, 2, none⟩ = some v := by rw [cell_of_row wr _ _ _ _ _ hx]; rfl
        have cf : wr.frozen? ⟨X, 2, none⟩ = false := by simp [World.frozen?, hx]
        have Hx := Lib.hid hx
        have hXl := lt_of_heap hx
        have hobl := own_block hown
        have hvX : v.ownBlock ≠ some X := by
          intro e
          obtain ⟨_, cur, h⟩ := hobl X e
          rw [hx] at h
          cases h
        have hgs := hg.size
        clear hx
        go_wp2_with (at_builtin; refine wpList_append_own _ rfl _ _ 35 rfl X 9 i0 (.string ⟨#[]⟩) 1 16 Tryz.underlying35 hi hz0 hz1 hz2 rfl (by decide) v 4 ((spotsL 4).map .string) rfl (World.ownsRow.alloc (by simpa [OwnS, spotsL_length] using hown) _) ⟨wr.heap.size, 0, none⟩ 1 1 [.string (⟨#[112]⟩ ++ Go.Utf8.encode 101)] rfl rfl ?c1 ?c2 ?c3 ?c4 ?c5 ?_)
        case c1 => exact cell_one_new _ _ _
        case c2 => simp [Value.oneCell']
        case c3 => unfold maxLen; omega
        case c4 => omega
        case c5 => simp; omega
        intro v' w4 hown4 hgrow _
        rw [show ((⟨#[112]⟩ : ByteArray) ++ Go.Utf8.encode 101) = ⟨#[112, 101]⟩ from by decide +kernel] at hown4
        have hrow : ∀ r, v.ownBlock = some r → r ≠ X ∧ X ≤ r := fun r hr => ⟨fun e => hvX (by rw [hr, e]), (hobl r hr).1⟩
        have hx4 : w4.heap[X]? = some (.cells #[.string K_ann', .string N_ann, v] 86 (0, 0)) := (hgrow.block X (by simp; omega) (fun e => hvX e.symm)).trans ((heap_alloc_old wr _ hXl).trans Hx.out)
        have cf4 : w4.frozen? ⟨X, 2, none⟩ = false := by simp [World.frozen?, hx4]
        have c24 : w4.cell? ⟨X, 2, none⟩ = some v := by rw [cell_of_row w4 _ _ _ _ _ hx4]; rfl
        have hs4 : St w4 B (N + 1) := (hsr.alloc (.cells #[.string (⟨#[112]⟩ ++ Go.Utf8.encode 101)] 9)).grown hgrow fun r hr => by have := (hrow r hr).2; omega
        have hg4 : w.grownBy w4 (some B) := gb_then (gb_trans hg (gb_alloc wr (.cells #[.string (⟨#[112]⟩ ++ Go.Utf8.encode 101)] 9) _)) hgrow fun r hr => by have := (hrow r hr).2; have := HXw.out; omega
        have hown5 : OwnS w4 X v' (spotsL (4 + 1)) := by
          have : (spotsL (4 + 1)).map Value.string = (spotsL 4).map Value.string ++ [.string ⟨#[112, 101]⟩] := by rw [spotsL_succ, List.map_append]; rfl
          unfold OwnS
          rw [this, spotsL_length]
          exact hown4
        have hvX4 : v'.ownBlock ≠ some X := by
          intro e
          obtain ⟨_, cur, h⟩ := own_block hown5 X e
          rw [hx4] at h
          cases h
        obtain ⟨oa, oc, hv4⟩ := owns_shape hown5
        rw [spotsL_length] at hv4
        subst hv4
        clear hown hobl hsr hg hgs Hx hown4 hgrow hrow hvX
        go_wp2_with fail
        have hgx := gb_setCell w4 X 2 (.slice oa (4 + 1) oc)
        have hx5 : (w4.setCell ⟨X, 2, none⟩ (.slice oa (4 + 1) oc)).heap[X]? = some (.cells #[.string K_ann', .string N_ann, .slice oa (4 + 1) oc] 86 (0, 0)) := by simp [World.setCell, Array.getElem?_modify, hx4]
        have hs5 : St (w4.setCell ⟨X, 2, none⟩ (.slice oa (4 + 1) oc)) B (N + 1) := hs4.grown hgx fun r hr => by cases hr; exact hXB
        have hg5 : w.grownBy (w4.setCell ⟨X, 2, none⟩ (.slice oa (4 + 1) oc)) (some B) := gb_then hg4 hgx fun r hr => by cases hr; have := HXw.out; omega
        have hown6 := World.ownsRow.kept hown5 hgx (.inr (by simpa using hvX4))
        clear hx4 c24 cf4 hs4 hg4 hown5
        go_roundw
        case rel => exact ⟨4 + 1, .slice oa (4 + 1) oc, by go_num, by omega, hx5, hown6, hs5, hg5⟩
        case measure => simp [intOf]
      · have c2 : wr.cell? ⟨X, 2, none⟩ = some v := by rw [cell_of_row wr _ _ _ _ _ hx]; rfl
        have cf : wr.frozen? ⟨X, 2, none⟩ = false := by simp [World.frozen?, hx]
        have Hx := Lib.hid hx
        have hXl := lt_of_heap hx
        have hobl := own_block hown
        have hvX : v.ownBlock ≠ some X := by
          intro e
          obtain ⟨_, cur, h⟩ := hobl X e
          rw [hx] at h
          cases h
        have hgs := hg.size
        clear hx
        go_wp2_with (at_builtin; refine wpList_append_own _ rfl _ _ 35 rfl X 9 i0 (.string ⟨#[]⟩) 1 16 Tryz.underlying35 hi hz0 hz1 hz2 rfl (by decide) v 5 ((spotsL 5).map .string) rfl (World.ownsRow.alloc (by simpa [OwnS, spotsL_length] using hown) _) ⟨wr.heap.size, 0, none⟩ 1 1 [.string (⟨#[112]⟩ ++ Go.Utf8.encode 102)] rfl rfl ?c1 ?c2 ?c3 ?c4 ?c5 ?_)
        case c1 => exact cell_one_new _ _ _
        case c2 => simp [Value.oneCell']
        case c3 => unfold maxLen; omega
        case c4 => omega
        case c5 => simp; omega
        intro v' w4 hown4 hgrow _
        rw [show ((⟨#[112]⟩ : ByteArray) ++ Go.Utf8.encode 102) = ⟨#[112, 102]⟩ from by decide +kernel] at hown4
        have hrow : ∀ r, v.ownBlock = some r → r ≠ X ∧ X ≤ r := fun r hr => ⟨fun e => hvX (by rw [hr, e]), (hobl r hr).1⟩
        have hx4 : w4.heap[X]? = some (.cells #[.string K_ann', .string N_ann, v] 86 (0, 0)) := (hgrow.block X (by simp; omega) (fun e => hvX e.symm)).trans ((heap_alloc_old wr _ hXl).trans Hx.out)
        have cf4 : w4.frozen? ⟨X, 2, none⟩ = false := by simp [World.frozen?, hx4]
        have c24 : w4.cell? ⟨X, 2, none⟩ = some v := by rw [cell_of_row w4 _ _ _ _ _ hx4]; rfl
        have hs4 : St w4 B (N + 1) := (hsr.alloc (.cells #[.string (⟨#[112]⟩ ++ Go.Utf8.encode 102)] 9)).grown hgrow fun r hr => by have := (hrow r hr).2; omega
        have hg4 : w.grownBy w4 (some B) := gb_then (gb_trans hg (gb_alloc wr (.cells #[.string (⟨#[112]⟩ ++ Go.Utf8.encode 102)] 9) _)) hgrow fun r hr => by have := (hrow r hr).2; have := HXw.out; omega
        have hown5 : OwnS w4 X v' (spotsL (5 + 1)) := by
          have : (spotsL (5 + 1)).map Value.string = (spotsL 5).map Value.string ++ [.string ⟨#[112, 102]⟩] := by rw [spotsL_succ, List.map_append]; rfl
          unfold OwnS
          rw [this, spotsL_length]
          exact hown4
        have hvX4 : v'.ownBlock ≠ some X := by
          intro e
          obtain ⟨_, cur, h⟩ := own_block hown5 X e
          rw [hx4] at h
          cases h
        obtain ⟨oa, oc, hv4⟩ := owns_shape hown5
        rw [spotsL_length] at hv4
        subst hv4
        clear hown hobl hsr hg hgs Hx hown4 hgrow hrow hvX
        go_wp2_with fail
        have hgx := gb_setCell w4 X 2 (.slice oa (5 + 1) oc)
        have hx5 : (w4.setCell ⟨X, 2, none⟩ (.slice oa (5 + 1) oc)).heap[X]? = some (.cells #[.string K_ann', .string N_ann, .slice oa (5 + 1) oc] 86 (0, 0)) := by simp [World.setCell, Array.getElem?_modify, hx4]
        have hs5 : St (w4.setCell ⟨X, 2, none⟩ (.slice oa (5 + 1) oc)) B (N + 1) := hs4.grown hgx fun r hr => by cases hr; exact hXB
        have hg5 : w.grownBy (w4.setCell ⟨X, 2, none⟩ (.slice oa (5 + 1) oc)) (some B) := gb_then hg4 hgx fun r hr => by cases hr; have := HXw.out; omega
        have hown6 := World.ownsRow.kept hown5 hgx (.inr (by simpa using hvX4))
        clear hx4 c24 cf4 hs4 hg4 hown5
        go_roundw
        case rel => exact ⟨5 + 1, .slice oa (5 + 1) oc, by go_num, by omega, hx5, hown6, hs5, hg5⟩
        case measure => simp [intOf]
      · have c2 : wr.cell? ⟨X, 2, none⟩ = some v := by rw [cell_of_row wr _ _ _ _ _ hx]; rfl
        have cf : wr.frozen? ⟨X, 2, none⟩ = false := by simp [World.frozen?, hx]
        have Hx := Lib.hid hx
        have hXl := lt_of_heap hx
        have hobl := own_block hown
        have hvX : v.ownBlock ≠ some X := by
          intro e
          obtain ⟨_, cur, h⟩ := hobl X e
          rw [hx] at h
          cases h
        have hgs := hg.size
        clear hx
        go_wp2_with (at_builtin; refine wpList_append_own _ rfl _ _ 35 rfl X 9 i0 (.string ⟨#[]⟩) 1 16 Tryz.underlying35 hi hz0 hz1 hz2 rfl (by decide) v 6 ((spotsL 6).map .string) rfl (World.ownsRow.alloc (by simpa [OwnS, spotsL_length] using hown) _) ⟨wr.heap.size, 0, none⟩ 1 1 [.string (⟨#[112]⟩ ++ Go.Utf8.encode 103)] rfl rfl ?c1 ?c2 ?c3 ?c4 ?c5 ?_)
        case c1 => exact cell_one_new _ _ _
        case c2 => simp [Value.oneCell']
        case c3 => unfold maxLen; omega
        case c4 => omega
        case c5 => simp; omega
        intro v' w4 hown4 hgrow _
        rw [show ((⟨#[112]⟩ : ByteArray) ++ Go.Utf8.encode 103) = ⟨#[112, 103]⟩ from by decide +kernel] at hown4
        have hrow : ∀ r, v.ownBlock = some r → r ≠ X ∧ X ≤ r := fun r hr => ⟨fun e => hvX (by rw [hr, e]), (hobl r hr).1⟩
        have hx4 : w4.heap[X]? = some (.cells #[.string K_ann', .string N_ann, v] 86 (0, 0)) := (hgrow.block X (by simp; omega) (fun e => hvX e.symm)).trans ((heap_alloc_old wr _ hXl).trans Hx.out)
        have cf4 : w4.frozen? ⟨X, 2, none⟩ = false := by simp [World.frozen?, hx4]
        have c24 : w4.cell? ⟨X, 2, none⟩ = some v := by rw [cell_of_row w4 _ _ _ _ _ hx4]; rfl
        have hs4 : St w4 B (N + 1) := (hsr.alloc (.cells #[.string (⟨#[112]⟩ ++ Go.Utf8.encode 103)] 9)).grown hgrow fun r hr => by have := (hrow r hr).2; omega
        have hg4 : w.grownBy w4 (some B) := gb_then (gb_trans hg (gb_alloc wr (.cells #[.string (⟨#[112]⟩ ++ Go.Utf8.encode 103)] 9) _)) hgrow fun r hr => by have := (hrow r hr).2; have := HXw.out; omega
        have hown5 : OwnS w4 X v' (spotsL (6 + 1)) := by
          have : (spotsL (6 + 1)).map Value.string = (spotsL 6).map Value.string ++ [.string ⟨#[112, 103]⟩] := by rw [spotsL_succ, List.map_append]; rfl
          unfold OwnS
          rw [this, spotsL_length]
          exact hown4
        have hvX4 : v'.ownBlock ≠ some X := by
          intro e
          obtain ⟨_, cur, h⟩ := own_block hown5 X e
          rw [hx4] at h
          cases h
        obtain ⟨oa, oc, hv4⟩ := owns_shape hown5
        rw [spotsL_length] at hv4
        subst hv4
        clear hown hobl hsr hg hgs Hx hown4 hgrow hrow hvX
        go_wp2_with fail
        have hgx := gb_setCell w4 X 2 (.slice oa (6 + 1) oc)
        have hx5 : (w4.setCell ⟨X, 2, none⟩ (.slice oa (6 + 1) oc)).heap[X]? = some (.cells #[.string K_ann', .string N_ann, .slice oa (6 + 1) oc] 86 (0, 0)) := by simp [World.setCell, Array.getElem?_modify, hx4]
        have hs5 : St (w4.setCell ⟨X, 2, none⟩ (.slice oa (6 + 1) oc)) B (N + 1) := hs4.grown hgx fun r hr => by cases hr; exact hXB
        have hg5 : w.grownBy (w4.setCell ⟨X, 2, none⟩ (.slice oa (6 + 1) oc)) (some B) := gb_then hg4 hgx fun r hr => by cases hr; have := HXw.out; omega
        have hown6 := World.ownsRow.kept hown5 hgx (.inr (by simpa using hvX4))
        clear hx4 c24 cf4 hs4 hg4 hown5
        go_roundw
        case rel => exact ⟨6 + 1, .slice oa (6 + 1) oc, by go_num, by omega, hx5, hown6, hs5, hg5⟩
        case measure => simp [intOf]
      · have c2 : wr.cell? ⟨X, 2, none⟩ = some v := by rw [cell_of_row wr _ _ _ _ _ hx]; rfl
        have cf : wr.frozen? ⟨X, 2, none⟩ = false := by simp [World.frozen?, hx]
        have Hx := Lib.hid hx
        have hXl := lt_of_heap hx
        have hobl := own_block hown
        have hvX : v.ownBlock ≠ some X := by
          intro e
          obtain ⟨_, cur, h⟩ := hobl X e
          rw [hx] at h
          cases h
        have hgs := hg.size
        clear hx
        go_wp2_with (at_builtin; refine wpList_append_own _ rfl _ _ 35 rfl X 9 i0 (.string ⟨#[]⟩) 1 16 Tryz.underlying35 hi hz0 hz1 hz2 rfl (by decide) v 7 ((spotsL 7).map .string) rfl (World.ownsRow.alloc (by simpa [OwnS, spotsL_length] using hown) _) ⟨wr.heap.size, 0, none⟩ 1 1 [.string (⟨#[112]⟩ ++ Go.Utf8.encode 104)] rfl rfl ?c1 ?c2 ?c3 ?c4 ?c5 ?_)
        case c1 => exact cell_one_new _ _ _
        case c2 => simp [Value.oneCell']
        case c3 => unfold maxLen; omega
        case c4 => omega
        case c5 => simp; omega
        intro v' w4 hown4 hgrow _
        rw [show ((⟨#[112]⟩ : ByteArray) ++ Go.Utf8.encode 104) = ⟨#[112, 104]⟩ from by decide +kernel] at hown4
        have hrow : ∀ r, v.ownBlock = some r → r ≠ X ∧ X ≤ r := fun r hr => ⟨fun e => hvX (by rw [hr, e]), (hobl r hr).1⟩
        have hx4 : w4.heap[X]? = some (.cells #[.string K_ann', .string N_ann, v] 86 (0, 0)) := (hgrow.block X (by simp; omega) (fun e => hvX e.symm)).trans ((heap_alloc_old wr _ hXl).trans Hx.out)
        have cf4 : w4.frozen? ⟨X, 2, none⟩ = false := by simp [World.frozen?, hx4]
        have c24 : w4.cell? ⟨X, 2, none⟩ = some v := by rw [cell_of_row w4 _ _ _ _ _ hx4]; rfl
        have hs4 : St w4 B (N + 1) := (hsr.alloc (.cells #[.string (⟨#[112]⟩ ++ Go.Utf8.encode 104)] 9)).grown hgrow fun r hr => by have := (hrow r hr).2; omega
        have hg4 : w.grownBy w4 (some B) := gb_then (gb_trans hg (gb_alloc wr (.cells #[.string (⟨#[112]⟩ ++ Go.Utf8.encode 104)] 9) _)) hgrow fun r hr => by have := (hrow r hr).2; have := HXw.out; omega
        have hown5 : OwnS w4 X v' (spotsL (7 + 1)) := by
          have : (spotsL (7 + 1)).map Value.string = (spotsL 7).map Value.string ++ [.string ⟨#[112, 104]⟩] := by rw [spotsL_succ, List.map_append]; rfl
          unfold OwnS
          rw [this, spotsL_length]
          exact hown4
        have hvX4 : v'.ownBlock ≠ some X := by
          intro e
          obtain ⟨_, cur, h⟩ := own_block hown5 X e
          rw [hx4] at h
          cases h
        obtain ⟨oa, oc, hv4⟩ := owns_shape hown5
        rw [spotsL_length] at hv4
        subst hv4
        clear hown hobl hsr hg hgs Hx hown4 hgrow hrow hvX
        go_wp2_with fail
        have hgx := gb_setCell w4 X 2 (.slice oa (7 + 1) oc)
        have hx5 : (w4.setCell ⟨X, 2, none⟩ (.slice oa (7 + 1) oc)).heap[X]? = some (.cells #[.string K_ann', .string N_ann, .slice oa (7 + 1) oc] 86 (0, 0)) := by simp [World.setCell, Array.getElem?_modify, hx4]
        have hs5 : St (w4.setCell ⟨X, 2, none⟩ (.slice oa (7 + 1) oc)) B (N + 1) := hs4.grown hgx fun r hr => by cases hr; exact hXB
        have hg5 : w.grownBy (w4.setCell ⟨X, 2, none⟩ (.slice oa (7 + 1) oc)) (some B) := gb_then hg4 hgx fun r hr => by cases hr; have := HXw.out; omega
        have hown6 := World.ownsRow.kept hown5 hgx (.inr (by simpa using hvX4))
        clear hx4 c24 cf4 hs4 hg4 hown5
        go_roundw
        case rel => exact ⟨7 + 1, .slice oa (7 + 1) oc, by go_num, by omega, hx5, hown6, hs5, hg5⟩
        case measure => simp [intOf]
      · have c2 : wr.cell? ⟨X, 2, none⟩ = some v := by rw [cell_of_row wr _ _ _ _ _ hx]; rfl
        have cf : wr.frozen? ⟨X, 2, none⟩ = false := by simp [World.frozen?, hx]
        have Hx := Lib.hid hx
        have hXl := lt_of_heap hx
        have hobl := own_block hown
        have hvX : v.ownBlock ≠ some X := by
          intro e
          obtain ⟨_, cur, h⟩ := hobl X e
          rw [hx] at h
          cases h
        have hgs := hg.size
        clear hx
        go_wp2_with (at_builtin; refine wpList_append_own _ rfl _ _ 35 rfl X 9 i0 (.string ⟨#[]⟩) 1 16 Tryz.underlying35 hi hz0 hz1 hz2 rfl (by decide) v 8 ((spotsL 8).map .string) rfl (World.ownsRow.alloc (by simpa [OwnS, spotsL_length] using hown) _) ⟨wr.heap.size, 0, none⟩ 1 1 [.string (⟨#[112]⟩ ++ Go.Utf8.encode 105)] rfl rfl ?c1 ?c2 ?c3 ?c4 ?c5 ?_)
        case c1 => exact cell_one_new _ _ _
        case c2 => simp [Value.oneCell']
        case c3 => unfold maxLen; omega
        case c4 => omega
        case c5 => simp; omega
        intro v' w4 hown4 hgrow _
        rw [show ((⟨#[112]⟩ : ByteArray) ++ Go.Utf8.encode 105) = ⟨#[112, 105]⟩ from by decide +kernel] at hown4
        have hrow : ∀ r, v.ownBlock = some r → r ≠ X ∧ X ≤ r := fun r hr => ⟨fun e => hvX (by rw [hr, e]), (hobl r hr).1⟩
        have hx4 : w4.heap[X]? = some (.cells #[.string K_ann', .string N_ann, v] 86 (0, 0)) := (hgrow.block X (by simp; omega) (fun e => hvX e.symm)).trans ((heap_alloc_old wr _ hXl).trans Hx.out)
        have cf4 : w4.frozen? ⟨X, 2, none⟩ = false := by simp [World.frozen?, hx4]
        have c24 : w4.cell? ⟨X, 2, none⟩ = some v := by rw [cell_of_row w4 _ _ _ _ _ hx4]; rfl
        have hs4 : St w4 B (N + 1) := (hsr.alloc (.cells #[.string (⟨#[112]⟩ ++ Go.Utf8.encode 105)] 9)).grown hgrow fun r hr => by have := (hrow r hr).2; omega
        have hg4 : w.grownBy w4 (some B) := gb_then (gb_trans hg (gb_alloc wr (.cells #[.string (⟨#[112]⟩ ++ Go.Utf8.encode 105)] 9) _)) hgrow fun r hr => by have := (hrow r hr).2; have := HXw.out; omega
        have hown5 : OwnS w4 X v' (spotsL (8 + 1)) := by
          have : (spotsL (8 + 1)).map Value.string = (spotsL 8).map Value.string ++ [.string ⟨#[112, 105]⟩] := by rw [spotsL_succ, List.map_append]; rfl
          unfold OwnS
          rw [this, spotsL_length]
          exact hown4
        have hvX4 : v'.ownBlock ≠ some X := by
          intro e
          obtain ⟨_, cur, h⟩ := own_block hown5 X e
          rw [hx4] at h
          cases h
        obtain ⟨oa, oc, hv4⟩ := owns_shape hown5
        rw [spotsL_length] at hv4
        subst hv4
        clear hown hobl hsr hg hgs Hx hown4 hgrow hrow hvX
        go_wp2_with fail
        have hgx := gb_setCell w4 X 2 (.slice oa (8 + 1) oc)
        have hx5 : (w4.setCell ⟨X, 2, none⟩ (.slice oa (8 + 1) oc)).heap[X]? = some (.cells #[.string K_ann', .string N_ann, .slice oa (8 + 1) oc] 86 (0, 0)) := by simp [World.setCell, Array.getElem?_modify, hx4]
        have hs5 : St (w4.setCell ⟨X, 2, none⟩ (.slice oa (8 + 1) oc)) B (N + 1) := hs4.grown hgx fun r hr => by cases hr; exact hXB
        have hg5 : w.grownBy (w4.setCell ⟨X, 2, none⟩ (.slice oa (8 + 1) oc)) (some B) := gb_then hg4 hgx fun r hr => by cases hr; have := HXw.out; omega
        have hown6 := World.ownsRow.kept hown5 hgx (.inr (by simpa using hvX4))
        clear hx4 c24 cf4 hs4 hg4 hown5
        go_roundw
        case rel => exact ⟨8 + 1, .slice oa (8 + 1) oc, by go_num, by omega, hx5, hown6, hs5, hg5⟩
        case measure => simp [intOf]
      · have c2 : wr.cell? ⟨X, 2, none⟩ = some v := by rw [cell_of_row wr _ _ _ _ _ hx]; rfl
        have cf : wr.frozen? ⟨X, 2, none⟩ = false := by simp [World.frozen?, hx]
        have Hx := Lib.hid hx
        have hXl := lt_of_heap hx
        have hobl := own_block hown
        have hvX : v.ownBlock ≠ some X := by
          intro e
          obtain ⟨_, cur, h⟩ := hobl X e
          rw [hx] at h
          cases h
        have hgs := hg.size
        clear hx
        go_wp2_with (at_builtin; refine wpList_append_own _ rfl _ _ 35 rfl X 9 i0 (.string ⟨#[]⟩) 1 16 Tryz.underlying35 hi hz0 hz1 hz2 rfl (by decide) v 9 ((spotsL 9).map .string) rfl (World.ownsRow.alloc (by simpa [OwnS, spotsL_length] using hown) _) ⟨wr.heap.size, 0, none⟩ 1 1 [.string (⟨#[112]⟩ ++ Go.Utf8.encode 106)] rfl rfl ?c1 ?c2 ?c3 ?c4 ?c5 ?_)
        case c1 => exact cell_one_new _ _ _
        case c2 => simp [Value.oneCell']
        case c3 => unfold maxLen; omega
        case c4 => omega
        case c5 => simp; omega
        intro v' w4 hown4 hgrow _
        rw [show ((⟨#[112]⟩ : ByteArray) ++ Go.Utf8.encode 106) = ⟨#[112, 106]⟩ from by decide +kernel] at hown4
        have hrow : ∀ r, v.ownBlock = some r → r ≠ X ∧ X ≤ r := fun r hr => ⟨fun e => hvX (by rw [hr, e]), (hobl r hr).1⟩
        have hx4 : w4.heap[X]? = some (.cells #[.string K_ann', .string N_ann, v] 86 (0, 0)) := (hgrow.block X (by simp; omega) (fun e => hvX e.symm)).trans ((heap_alloc_old wr _ hXl).trans Hx.out)
        have cf4 : w4.frozen? ⟨X, 2, none⟩ = false := by simp [World.frozen?, hx4]
        have c24 : w4.cell? ⟨X, 2, none⟩ = some v := by rw [cell_of_row w4 _ _ _ _ _ hx4]; rfl
        have hs4 : St w4 B (N + 1) := (hsr.alloc (.cells #[.string (⟨#[112]⟩ ++ Go.Utf8.encode 106)] 9)).grown hgrow fun r hr => by have := (hrow r hr).2; omega
        have hg4 : w.grownBy w4 (some B) := gb_then (gb_trans hg (gb_alloc wr (.cells #[.string (⟨#[112]⟩ ++ Go.Utf8.encode 106)] 9) _)) hgrow fun r hr => by have := (hrow r hr).2; have := HXw.out; omega
        have hown5 : OwnS w4 X v' (spotsL (9 + 1)) := by
          have : (spotsL (9 + 1)).map Value.string = (spotsL 9).map Value.string ++ [.string ⟨#[112, 106]⟩] := by rw [spotsL_succ, List.map_append]; rfl
          unfold OwnS
          rw [this, spotsL_length]
          exact hown4
        have hvX4 : v'.ownBlock ≠ some X := by
          intro e
          obtain ⟨_, cur, h⟩ := own_block hown5 X e
          rw [hx4] at h
          cases h
        obtain ⟨oa, oc, hv4⟩ := owns_shape hown5
        rw [spotsL_length] at hv4
        subst hv4
        clear hown hobl hsr hg hgs Hx hown4 hgrow hrow hvX
        go_wp2_with fail
        have hgx := gb_setCell w4 X 2 (.slice oa (9 + 1) oc)
        have hx5 : (w4.setCell ⟨X, 2, none⟩ (.slice oa (9 + 1) oc)).heap[X]? = some (.cells #[.string K_ann', .string N_ann, .slice oa (9 + 1) oc] 86 (0, 0)) := by simp [World.setCell, Array.getElem?_modify, hx4]
        have hs5 : St (w4.setCell ⟨X, 2, none⟩ (.slice oa (9 + 1) oc)) B (N + 1) := hs4.grown hgx fun r hr => by cases hr; exact hXB
        have hg5 : w.grownBy (w4.setCell ⟨X, 2, none⟩ (.slice oa (9 + 1) oc)) (some B) := gb_then hg4 hgx fun r hr => by cases hr; have := HXw.out; omega
        have hown6 := World.ownsRow.kept hown5 hgx (.inr (by simpa using hvX4))
        clear hx4 c24 cf4 hs4 hg4 hown5
        go_roundw
        case rel => exact ⟨9 + 1, .slice oa (9 + 1) oc, by go_num, by omega, hx5, hown6, hs5, hg5⟩
        case measure => simp [intOf]
    · obtain ⟨n, rfl⟩ : ∃ n : Nat, m = (n : Int) := ⟨m.toNat, by omega⟩
      obtain rfl : k = n := by omega
      have hk10 : k ≤ 10 := by omega
      obtain ⟨W2, hW2⟩ : ∃ W2, W2 = wr.alloc (.cells #[.string ⟨#[113, 97]⟩, .string ⟨#[113, 98]⟩, .string ⟨#[113, 99]⟩] 9) := ⟨_, rfl⟩
      have h5 : ThreeAt W2 wr.heap.size ⟨#[113, 97]⟩ ⟨#[113, 98]⟩ ⟨#[113, 99]⟩ := by rw [hW2]; exact heap_alloc_new wr _
      have hs2 : St W2 B (N + 1) := by rw [hW2]; exact hsr.alloc _
      have hg2 : w.grownBy W2 (some B) := by rw [hW2]; exact gb_trans hg (gb_alloc wr _ _)
      have hx2 : Hid (W2.heap[X]? = some (.cells #[.string K_ann', .string N_ann, v] 86 (0, 0))) := Lib.hid (by rw [hW2]; exact (heap_alloc_old wr _ (lt_of_heap hx)).trans hx)
      have hS2 : Strs W2 X v (spotsL k) := by rw [hW2]; exact (strs_of_owns hown (by rw [spotsL_length]; omega)).below (below_alloc _ _)
      have hbB : wr.heap.size ≠ B := by have := hg.size; omega
      obtain ⟨bm, hbm⟩ : ∃ bm, bm = wr.heap.size := ⟨_, rfl⟩
      clear hown hx hsr hg
      go_wp2_with fail
      rw [← hW2]
      rw [← hbm] at h5 hbB ⊢
      clear hW2 hbm hlt
      go_loopw [6, 28] (fun out i wq => ∃ (q : Nat) (fs : List SD), q ≤ 3 ∧ i = .int .i64 q ∧ fs.length ≤ q ∧ Hid (∀ h ∈ fs, OkS h) ∧ OwnAp wq X out fs ∧ St wq B (N + 1 + q) ∧ w.grownBy wq (some B) ∧ Hid (wq.heap[X]? = some (.cells #[.string K_ann', .string N_ann, v] 86 (0, 0))) ∧ Strs wq X v (spotsL k) ∧ ThreeAt wq bm ⟨#[113, 97]⟩ ⟨#[113, 98]⟩ ⟨#[113, 99]⟩) (fun _ i _ => 3 - (intOf i).toNat)
      case atStart => exact ⟨0, [], by omega, rfl, by simp, Lib.hid (by simp), World.ownsRow_nil _ _ _ _, hs2.mono (by omega), hg2, hx2, hS2, h5⟩
      case round =>
        obtain ⟨q, fs, hq, rfl, hfl, Hfs, hown, hsq, hgq, hxq, hSq, h3q⟩ := hrel
        clear hs2 hg2 hx2 hS2 h5
        by_cases hltq : q < 3
        · obtain ⟨qq, hqm, hcell⟩ := three_cell h3q hltq
          have hq40 : qq.size ≤ 40 := small_of (ks := [⟨#[113, 97]⟩, ⟨#[113, 98]⟩, ⟨#[113, 99]⟩]) (by decide) hqm
          obtain ⟨curB, hB⟩ := st_cells hsq
          clear hqm
          go_wp2_with fail
          refine (flip_calls B (N + 1 + q) 3 _ hsq (by omega) (by omega) (by omega)).mono ?_
          rintro e w3 ⟨v3, ⟨b2, rfl⟩, rfl, hs3, hg3⟩
          have hown3 := own_ap_row hown hg3 hB (by decide)
          have hg03 := gb_trans hgq hg3
          have h33 := h3q.drawn hg3 hbB
          have hx3 : Hid (w3.heap[X]? = some (.cells #[.string K_ann', .string N_ann, v] 86 (0, 0))) := Lib.hid ((hg3.block X (lt_of_heap hxq.out) (by intro e; cases e; omega)).trans hxq.out)
          have hS3 := hSq.row hg3 fun r hr => ⟨curB, _, _, by cases hr; exact hB, by decide⟩
          clear hB hsq hown hgq hxq hSq h3q hg3 hcell
          cases b2
          · go_wp2_with (at_builtin; refine wpList_append_own _ rfl _ _ 73 rfl X 132 j0 (.agg #[.string ⟨#[]⟩, .string ⟨#[]⟩, .int .i64 0]) 3 40 Tryz.underlying73 hj hy0 hy1 hy2 rfl (by decide) _ _ _ rfl (World.ownsRow.alloc hown3 _) ⟨w3.heap.size, 0, none⟩ 1 1 [.string ⟨#[97, 110, 110]⟩, .string qq, .int .i64 1] rfl rfl ?c1 ?c2 ?c3 ?c4 ?c5 ?_)
            case c1 => exact cell_three_new _ _ _ _ _
            case c2 => simp [Value.oneCell']
            case c3 => unfold maxLen; omega
            case c4 => omega
            case c5 => have := lt_of_heap hx3.out; simp; omega
            intro v' w6 hown6 hgrow _
            have hs6 := ((hs3.alloc (.cells #[.string ⟨#[97, 110, 110]⟩, .string qq, .int .i64 1] 132)).grown hgrow fun r hr => by have := (own_block hown3 r hr).1; omega)
            have hg6 := gb_then (gb_trans hg03 (gb_alloc w3 (.cells #[.string ⟨#[97, 110, 110]⟩, .string qq, .int .i64 1] 132) _)) hgrow fun r hr => by have := (own_block hown3 r hr).1; have := HXw.out; omega
            have h36 : ThreeAt w6 bm ⟨#[113, 97]⟩ ⟨#[113, 98]⟩ ⟨#[113, 99]⟩ := (h33.alloc (.cells #[.string ⟨#[97, 110, 110]⟩, .string qq, .int .i64 1] 132)).grow hgrow fun e => by
              obtain ⟨_, cur', h⟩ := own_block hown3 bm e
              have := h33
              unfold ThreeAt at this
              rw [h] at this
              cases this
            have hx6 : Hid (w6.heap[X]? = some (.cells #[.string K_ann', .string N_ann, v] 86 (0, 0))) := Lib.hid ((hgrow.block X (by have := lt_of_heap hx3.out; simp; omega) (fun e => by
              obtain ⟨_, cur', h⟩ := own_block hown3 X e.symm
              have := hx3.out
              rw [h] at this
              cases this)).trans ((heap_alloc_old w3 _ (lt_of_heap hx3.out)).trans hx3.out))
            have hS6 : Strs w6 X v (spotsL k) := (hS3.below (below_alloc w3 (.cells #[.string ⟨#[97, 110, 110]⟩, .string qq, .int .i64 1] 132))).row hgrow fun r hr => by
              obtain ⟨_, cur', h⟩ := own_block hown3 r hr
              exact ⟨_, _, _, (heap_alloc_old w3 _ (lt_of_heap h)).trans h, by decide⟩
            have hown6' : OwnAp w6 X v' (fs ++ [⟨K_ann', qq, 1⟩]) := by unfold OwnAp; simpa [stRow, K_ann'] using hown6
            have Hfs6 : Hid (∀ h ∈ fs ++ [⟨K_ann', qq, 1⟩], OkS h) := Lib.hid fun f hf => by
              rcases List.mem_append.1 hf with h | h
              · exact Hfs.out f h
              · obtain rfl := List.mem_singleton.1 h; exact ⟨by show (3 : Nat) ≤ 40; omega, hq40, by show (-1099511627776 : Int) ≤ 1; omega, by show (1 : Int) ≤ 1099511627776; omega⟩
            clear hown6 hgrow hown3 hs3 hg03 h33 hx3 hS3
            go_wp2_with fail
            go_roundw
            case rel => exact ⟨q + 1, _, by omega, by go_num, by simp; omega, Hfs6, hown6', hs6.mono (by omega), hg6, hx6, hS6, h36⟩
            case measure => simp [intOf]; omega
          · go_wp2_with fail
            go_roundw
            case rel => exact ⟨q + 1, fs, by omega, by go_num, by omega, Hfs, hown3, hs3.mono (by omega), hg03, hx3, hS3, h33⟩
            case measure => simp [intOf]; omega
        · obtain rfl : q = 3 := by omega
          have c0 : wr.cell? ⟨X, 0, none⟩ = some (.string K_ann') := by rw [cell_of_row wr _ _ _ _ _ hxq.out]; rfl
          have c1 : wr.cell? ⟨X, 1, none⟩ = some (.string N_ann) := by rw [cell_of_row wr _ _ _ _ _ hxq.out]; rfl
          have c2 : wr.cell? ⟨X, 2, none⟩ = some v := by rw [cell_of_row wr _ _ _ _ _ hxq.out]; rfl
          have hP := plays_row wr (manyP k) v X hSq (by have := lt_of_heap hxq.out; omega)
          have hA : Aps wr X u6 fs := Rows.of_owns (rows := fs.map stRow) (by unfold OwnAp at hown; simpa using hown) (by simp; omega) (by simp [stRow])
          clear h3q
          go_wp2_with fail
          go_ret2
          exact ⟨_, _, k, fs, rfl, hk10, by rw [← HXw.out]; exact hP, by rw [← HXw.out]; exact hA.below (below_alloc _ _), by omega, Hfs.out, (hsq.alloc _).mono (by omega), gb_trans hgq (gb_alloc _ _ _)⟩
end Go.Proofs.YtmjkbmkjnbpgeaaGreatDoor
