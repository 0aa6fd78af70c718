/- Numbers and fractions as the reference reads them. -/
import Derived.Test.YtmejjkicagkogaaGreatDoorTrp
import Derived.Test.YtmejjkicagkogaaGreatDoorApw
namespace Go.Proofs.YtmejjkicagkogaaGreatDoor
open Go.RowKit

theorem info_int : (Tryz.prog.info? 3).map (fun i => (i.zero, i.size, i.bytes)) = some (some (.int .i64 0), 1, 8) := by kernel_rfl
/-- What a number stands for: the one that its word spells, if it spells one. -/
def Spells (x : ByteArray) (n : Int) : Prop := Int64 n ∧ ∀ m, numV x.data.toList = some m → n = m
def okN (x : ByteArray) : Bool := (numV x.data.toList).isSome
set_option maxRecDepth 100000 in
set_option maxHeartbeats 4000000 in
theorem numbersIn_calls (lo : Nat) (v : Value) (ks : List ByteArray) (w : World) (hK : Strs w lo v ks) (hs : ∀ k ∈ ks, k.size ≤ 100000) (hn : ks.length ≤ 1000) (hG : GlobT w) :
    Calls Tryz.prog 71 #[v, .int .i64 15] w fun e w' => ∃ (v' : Value) (ns : List Int), e = .returned (.tuple #[v', .bool (ks.all okN)]) ∧ w'.ownsRow w.heap.size 3 1 v' ns.length (ns.map (Value.int .i64)) ∧ ns.length = ks.length ∧
      (∀ j, j < ks.length → ∃ x n, ks[j]? = some x ∧ ns[j]? = some n ∧ Spells x n) ∧ Below w.heap.size w w' := by
  obtain ⟨i0, hi, hz0, hz1, hz2⟩ := info_parts info_int
  have HI := Lib.hid (And.intro hi (And.intro hz0 (And.intro hz1 hz2)))
  have Hat := Lib.hid (strs_at hK)
  obtain ⟨ka, kc, rfl⟩ := strs_shape' hK
  have Hs := Lib.hid hs
  have HG := Lib.hid (fun w' (hb : Below w.heap.size w w') => hG.below hb)
  clear hK hs hG hi hz0 hz1 hz2
  go_enter Tryz.func71, Tryz.ntmps71
  go_wp2_with fail
  go_loopw [6, 7, 14] (fun s al i wr => ∃ (k : Nat) (ns : List Int), k ≤ ks.length ∧ i = .int .i64 k ∧ al = .bool ((ks.take k).all okN) ∧ wr.ownsRow w.heap.size 3 1 s ns.length (ns.map (Value.int .i64)) ∧ Hid (ns.length = k) ∧
      Hid (∀ j, j < k → ∃ x n, ks[j]? = some x ∧ ns[j]? = some n ∧ Spells x n) ∧ Below w.heap.size w wr) (fun _ _ i _ => ks.length - (intOf i).toNat)
  case atStart => exact ⟨0, [], Nat.zero_le _, rfl, rfl, World.ownsRow_nil _ _ _ _, Lib.hid rfl, Lib.hid (fun j h => by omega), Below.refl _ _⟩
  case round =>
    obtain ⟨k, ns, hk, rfl, rfl, hown, Hln, Hsp, hb⟩ := hrel
    by_cases hlt : k < ks.length
    · obtain ⟨x, hx⟩ : ∃ x, ks[k]? = some x := ⟨ks[k], List.getElem?_eq_getElem hlt⟩
      rcases Hat.out with ⟨_, h⟩ | ⟨g, off, cap, e, _, hg, _, hcell⟩
      · rw [h] at hlt; simp at hlt
      simp only [Value.slice.injEq] at e
      obtain ⟨rfl, -, rfl⟩ := e
      have p0 := below_cell hb (hcell k x hx)
      have C := Lib.hid (numberR_calls x wr (Hs.out x (List.mem_of_getElem? hx)) (HG.out wr hb))
      have Hnx := Lib.hid (show (ks.take (k + 1)).all okN = ((ks.take k).all okN && okN x) by rw [List.take_add_one, hx, List.all_append]; simp)
      have Hx := Lib.hid hx
      have HO := Lib.hid (show (numV x.data.toList).isSome = okN x from rfl)
      clear hx hcell
      rw [HO.out] at C
      clear HO
      go_wp2_with fail
      refine C.out.mono ?_
      rintro e w1 ⟨n, rfl, hn64, hsp, hb1⟩
      have hb01 := below_step hb hb1
      have hown1 := own_below hown hb1
      have Hsn := Lib.hid (show Spells x n from ⟨hn64, hsp⟩)
      have HL := Lib.hid (show ns.length ≤ 1000 by have := Hln.out; omega)
      clear C hown hb hb1 p0 hn64 hsp
      have Hb01 := Lib.hid hb01
      obtain ⟨Q, hQ⟩ : ∃ Q, Q = (ks.take k).all okN := ⟨_, rfl⟩
      have HQ := Lib.hid hQ
      rw [← hQ]
      clear hb01 hQ
      go_wp2_with (at_builtin; obtain ⟨hi, hz0, hz1, hz2⟩ := HI.out; refine wpList_append_own _ rfl _ _ 22 rfl w.heap.size 3 i0 (.int .i64 0) 1 8 Tryz.underlying22 hi hz0 hz1 hz2 rfl (by decide) _ _ _ rfl (hown1.alloc _) ⟨w1.heap.size, 0, none⟩ 1 1 [.int .i64 n] rfl rfl ?c1 ?c2 ?c3 ?c4 ?c5 ?_)
      case c1 => exact cells_new _ _ _
      case c2 => simp [Value.oneCell']
      case c3 => have := HL.out; unfold maxLen; omega
      case c4 => have := HL.out; omega
      case c5 => have := Hb01.out.size; simp; omega
      intro v' w2 hown2 hgrow _
      have hb2 : Below w.heap.size w w2 := (below_step Hb01.out (below_alloc w1 _)).grown hgrow (by have := Hb01.out.size; simp; omega) fun r hr => (own_block hown1 r hr).1
      have Hb2 := Lib.hid hb2
      clear hb2 hgrow
      cases Q
      · go_wp2_with fail
        go_roundw
        case rel =>
          refine ⟨k + 1, ns ++ [n], by omega, by go_num, by rw [Hnx.out, ← HQ.out]; rfl, by simpa using hown2, Lib.hid (by simp; exact Hln.out), Lib.hid fun j hj => ?_, Hb2.out⟩
          rcases Nat.lt_succ_iff_lt_or_eq.1 hj with h | rfl
          · obtain ⟨y, m, h1, h2, h3⟩ := Hsp.out j h
            exact ⟨y, m, h1, by rw [List.getElem?_append_left (List.getElem?_eq_some_iff.1 h2).1]; exact h2, h3⟩
          · exact ⟨x, n, Hx.out, by rw [List.getElem?_append_right (by have := Hln.out; omega), Hln.out, Nat.sub_self]; rfl, Hsn.out⟩
        case measure => simp [intOf]; omega
      · go_wp2_with fail
        go_roundw
        case rel =>
          refine ⟨k + 1, ns ++ [n], by omega, by go_num, by rw [Hnx.out, ← HQ.out]; simp, by simpa using hown2, Lib.hid (by simp; exact Hln.out), Lib.hid fun j hj => ?_, Hb2.out⟩
          rcases Nat.lt_succ_iff_lt_or_eq.1 hj with h | rfl
          · obtain ⟨y, m, h1, h2, h3⟩ := Hsp.out j h
            exact ⟨y, m, h1, by rw [List.getElem?_append_left (List.getElem?_eq_some_iff.1 h2).1]; exact h2, h3⟩
          · exact ⟨x, n, Hx.out, by rw [List.getElem?_append_right (by have := Hln.out; omega), Hln.out, Nat.sub_self]; rfl, Hsn.out⟩
        case measure => simp [intOf]; omega
    · obtain rfl : k = ks.length := by omega
      obtain ⟨va, vc, rfl⟩ := owns_shape hown
      have HT := Lib.hid (List.take_length (l := ks))
      have HW := Lib.hid hown
      rw [HT.out]
      clear hown
      go_wp2_with fail
      go_ret2
      exact ⟨_, ns, rfl, HW.out, Hln.out, Hsp.out, hb⟩
end Go.Proofs.YtmejjkicagkogaaGreatDoor
