/- The reference's bench: the scorers who are in no slot. -/
import Derived.Test.YthlfjfmlmcoihaaGreatMgas
import Derived.Test.YthlfjfmlmcoihaaGreatMgat
import Derived.Test.YthlfjfmlmcoihaaGreatMgaj
namespace Go.Proofs.YthlfjfmlmcoihaaGreat
open Go.RowKit

def bnOf (xs : List ScD) (fs : List FiD) : List ByteArray := (xs.filter fun c => !inF fs c.who).map ScD.who
theorem bnOf_take {xs : List ScD} {fs : List FiD} {k : Nat} {c : ScD} (h : xs[k]? = some c) : bnOf (xs.take (k + 1)) fs = bnOf (xs.take k) fs ++ (if inF fs c.who then [] else [c.who]) := by
  unfold bnOf
  rw [List.take_add_one, h, List.filter_append, List.map_append]
  cases hi : inF fs c.who <;> simp [hi]
theorem bnOf_len (xs : List ScD) (fs : List FiD) : (bnOf xs fs).length ≤ xs.length := by
  unfold bnOf
  rw [List.length_map]
  exact List.length_filter_le _ _
theorem benchOf1_calls (f : FiD) (k : ByteArray) (X : Nat) (w : World) (hX : w.cell? ⟨X, 0, none⟩ = some (.string k)) :
    Calls Tryz.prog 74 #[.agg #[.string f.slot, .string f.who], .pointer (some ⟨X, 0, none⟩)] w (BoolIs (beqS f.who k) w) := by
  go_enter Tryz.func74, Tryz.ntmps74
  have hX1 := below_cell (below_alloc w (.cells #[.string f.slot, .string f.who] 49)) hX
  go_wp2_with fail
  go_ret
  exact ⟨ret_bool (by unfold beqS; rfl), below_alloc w _⟩
set_option maxRecDepth 100000 in
set_option maxHeartbeats 4000000 in
theorem benchOf_calls (lo lo' : Nat) (v u : Value) (xs : List ScD) (fs : List FiD) (w : World) (hC : Scs w lo v xs) (hF : Fis w lo' u fs) (hn : xs.length ≤ 1000) :
    Calls Tryz.prog 23 #[v, u] w fun e w' => ∃ v', e = .returned v' ∧ w'.ownsRow w.heap.size 9 1 v' (bnOf xs fs).length ((bnOf xs fs).map .string) ∧ Below w.heap.size w w' := by
  obtain ⟨i0, hi, hz0, hz1, hz2⟩ := info_parts info_str
  have Hat := Lib.hid (scs_at hC)
  obtain ⟨a, c, rfl⟩ := NRows.shape hC
  obtain ⟨a', c', hu⟩ := fis_shape hF
  have HF := Lib.hid (fun w' (hb : Below w.heap.size w w') => hF.below hb)
  rw [hu] at HF ⊢
  clear hC hF hu
  go_enter Tryz.func23, Tryz.ntmps23
  go_wp2_with fail
  go_loopw [5, 10] (fun out i wr => ∃ k : Nat, k ≤ xs.length ∧ i = .int .i64 k ∧ wr.ownsRow w.heap.size 9 1 out (bnOf (xs.take k) fs).length ((bnOf (xs.take k) fs).map .string) ∧ Below w.heap.size w wr) (fun _ i _ => xs.length - (intOf i).toNat)
  case atStart => exact ⟨0, Nat.zero_le _, rfl, World.ownsRow_nil _ _ _ _, Below.refl _ _⟩
  case round =>
    obtain ⟨k, hk, rfl, hown, hb⟩ := hrel
    by_cases hlt : k < xs.length
    · obtain ⟨s, hs⟩ : ∃ s, xs[k]? = some s := ⟨xs[k], List.getElem?_eq_getElem hlt⟩
      rcases Hat.out with ⟨_, h⟩ | ⟨g, off, cap, e, _, hg, _, hcell⟩
      · rw [h] at hlt; simp at hlt
      simp only [Value.slice.injEq] at e
      obtain ⟨rfl, -, rfl⟩ := e
      obtain ⟨pv, q0, q1, q2, q3, q4, hpv⟩ := hcell k s hs
      obtain ⟨pa, pc, rfl⟩ := strs_shape hpv
      have p0 := below_cell hb q0
      have p1 := below_cell hb q1
      have p2 := below_cell hb q2
      have p3 := below_cell hb q3
      have p4 := below_cell hb q4
      have Hnx := Lib.hid (bnOf_take (fs := fs) hs)
      have Hlen := Lib.hid (show (bnOf (xs.take k) fs).length ≤ 1000 from Nat.le_trans (bnOf_len _ _) (by simp; omega))
      clear hs hcell q0 q1 q2 q3 q4 hpv
      go_upto_region 5 with fail
      obtain ⟨wA, hwA⟩ : ∃ wA, wA = wr.alloc (.cells #[.string s.who, .slice pa s.pos.length pc, .int .i64 s.num, .int .i64 s.den, .bool s.played] 83) := ⟨_, rfl⟩
      have hbA : Below w.heap.size w wA := by rw [hwA]; exact below_step hb (below_alloc wr _)
      have hx : wA.heap[wr.heap.size]? = some (.cells #[.string s.who, .slice pa s.pos.length pc, .int .i64 s.num, .int .i64 s.den, .bool s.played] 83 (0, 0)) := by rw [hwA]; exact heap_alloc_new wr _
      have hownA := hown.alloc (.cells #[.string s.who, .slice pa s.pos.length pc, .int .i64 s.num, .int .i64 s.den, .bool s.played] 83)
      rw [← hwA] at hownA ⊢
      have x0 := cell_at hx 0 rfl
      have HC := Lib.hid (containsFi_calls 74 #[.pointer (some ⟨wr.heap.size, 0, none⟩)] (fun f => beqS f.who s.who) lo' _ fs wA (HF.out wA hbA) (by intro args w; go_simp) (fun W f hb => benchOf1_calls f s.who wr.heap.size W (below_cell hb x0)))
      have Hx := Lib.hid hx
      clear hwA hx hb hown p0 p1 p2 p3 p4 x0
      go_wp2_with fail
      refine HC.out.mono ?_
      rintro e w2 ⟨rfl, hb2⟩
      rw [show (fs.any fun f => beqS f.who s.who) = inF fs s.who from rfl]
      have z0 := cell_at (cells_later Hx.out hb2) 0 rfl
      have hown2 := World.ownsRow.kept hownA (gb_below hb2 none) (by cases hv : u5.ownBlock <;> simp)
      have hb02 := below_step hbA hb2
      clear HC hb2 hownA hbA
      cases hin : inF fs s.who
      · rw [hin] at Hnx
        clear hin
        go_wp2_with (at_builtin; refine wpList_append_own _ rfl _ _ 39 rfl w.heap.size 9 i0 (.string ⟨#[]⟩) 1 16 Tryz.underlying39 hi hz0 hz1 hz2 rfl (by decide) _ _ _ rfl (hown2.alloc _) ⟨w2.heap.size, 0, none⟩ 1 1 [.string s.who] rfl rfl ?c1 ?c2 ?c3 ?c4 ?c5 ?_)
        case c1 => exact cells_new _ _ _
        case c2 => simp [Value.oneCell']
        case c3 => have := Hlen.out; unfold maxLen; omega
        case c4 => have := Hlen.out; have := hb02.size; omega
        case c5 => have := Hlen.out; have := hb02.size; simp; omega
        intro v' w4 hown4 hgrow _
        go_wp2_with fail
        go_roundw
        case rel =>
          refine ⟨k + 1, by omega, by go_num, by rw [Hnx.out]; simpa using hown4, (below_step hb02 (below_alloc w2 (.cells #[.string s.who] 9))).grown hgrow (by simp; have := hb02.size; omega) fun r hr => (own_block hown2 r hr).1⟩
        case measure => simp [intOf]; omega
      · rw [hin] at Hnx
        clear hin
        go_wp2_with fail
        go_roundw
        case rel => exact ⟨k + 1, by omega, by go_num, by rw [Hnx.out]; simpa using hown2, hb02⟩
        case measure => simp [intOf]; omega
    · obtain rfl : k = xs.length := by omega
      rw [List.take_length] at hown
      go_wp2_with fail
      go_ret
      exact ⟨_, rfl, hown, hb⟩
end Go.Proofs.YthlfjfmlmcoihaaGreat
