/- A line's words; fractions read, on both sides. -/
import Derived.Test.YtmejjkicagkogaaGreatDoorTrw
import Derived.Test.YtmejjkicagkogaaGreatDoorSpd
import Derived.Lib.SplitLaws
import Derived.Laws.ResultCell
import Derived.OwnWalk
namespace Go.Proofs.YtmejjkicagkogaaGreatDoor
open Go.RowKit

/-- A line cut at each blank. -/
def wsL (s : ByteArray) : List ByteArray := Lib.splitB ⟨#[32]⟩ 0 (Lib.countB s ⟨#[32]⟩) s
def goodW (s : ByteArray) : Bool := !cnS (wsL s) ⟨#[]⟩
theorem splitB_size (sep : ByteArray) : ∀ (k : Nat) (s : ByteArray), ∀ x ∈ Lib.splitB sep 0 k s, x.size ≤ s.size
  | 0, s, x, h => by
    rw [Lib.splitB_zero] at h
    obtain rfl := List.mem_singleton.1 h
    exact Nat.le_refl _
  | k + 1, s, x, h => by
    unfold Lib.splitB at h
    split at h
    · obtain rfl := List.mem_singleton.1 h
      exact Nat.le_refl _
    · rcases List.mem_cons.1 h with rfl | h
      · simp [ByteArray.size_extract]; omega
      · have := splitB_size sep k _ x h
        simp [ByteArray.size_extract] at this
        omega
theorem strAt_size {ks : List ByteArray} {n : Nat} (h : ∀ x ∈ ks, x.size ≤ n) (i : Nat) : (strAt ks i).size ≤ n := by
  unfold strAt
  cases hk : ks[i]? with
  | none => exact Nat.zero_le _
  | some k => exact h k (List.mem_of_getElem? hk)
theorem splitAll_length (s : ByteArray) (c : UInt8) : (Lib.splitB ⟨#[c]⟩ 0 (Lib.countB s ⟨#[c]⟩) s).length = Lib.countB s ⟨#[c]⟩ + 1 := Lib.splitB_all ⟨#[c]⟩ (by show 1 ≤ 1; omega) 0 _ s rfl
theorem splitAll_le (s : ByteArray) (c : UInt8) : (Lib.splitB ⟨#[c]⟩ 0 (Lib.countB s ⟨#[c]⟩) s).length ≤ s.size + 1 := by
  have := Lib.countB_le ⟨#[c]⟩ (by show 1 ≤ 1; omega) s.size s (Nat.le_refl _)
  rw [splitAll_length]; omega
theorem split_calls (s : ByteArray) (c : UInt8) (w : World) (hs : s.size ≤ 100000) (hG : GlobT w) :
    Calls Tryz.prog 67 #[.string s, .string ⟨#[c]⟩] w fun e w' => e = .returned (.slice (some ⟨w.heap.size, 0, none⟩) (Lib.splitB ⟨#[c]⟩ 0 (Lib.countB s ⟨#[c]⟩) s).length (Lib.splitB ⟨#[c]⟩ 0 (Lib.countB s ⟨#[c]⟩) s).length) ∧
      Strs w' w.heap.size (.slice (some ⟨w.heap.size, 0, none⟩) (Lib.splitB ⟨#[c]⟩ 0 (Lib.countB s ⟨#[c]⟩) s).length (Lib.splitB ⟨#[c]⟩ 0 (Lib.countB s ⟨#[c]⟩) s).length) (Lib.splitB ⟨#[c]⟩ 0 (Lib.countB s ⟨#[c]⟩) s) ∧ Below w.heap.size w w' := by
  obtain ⟨m, hm⟩ := hG.max
  refine (Tryz.strings_Split s ⟨#[c]⟩ m w (by omega) hm (by show 1 ≤ 1; omega)).mono ?_
  rintro e w' ⟨rfl, rfl⟩
  have h1 := splitAll_le s c
  have h2 := strs_new w (Lib.splitB ⟨#[c]⟩ 0 (Lib.countB s ⟨#[c]⟩) s) (by omega)
  refine ⟨by rw [splitAll_length], h2, below_alloc w _⟩
set_option maxHeartbeats 1000000 in
theorem wordsBad_calls (s : ByteArray) (w : World) (hs : s.size ≤ 100000) (hG : GlobT w) (h : goodW s = false) :
    Calls Tryz.prog 64 #[.string s] w fun e w' => e = .returned (.tuple #[.slice none 0 0, .bool false]) ∧ Below w.heap.size w w' := by
  have C1 := Lib.hid (split_calls s 32 w hs hG)
  have hc : cnS (wsL s) ⟨#[]⟩ = true := by unfold goodW at h; simpa using h
  have Hc := Lib.hid hc
  unfold wsL at Hc
  generalize Lib.splitB ⟨#[32]⟩ 0 (Lib.countB s ⟨#[32]⟩) s = P at C1 Hc
  clear hs hG h hc
  go_enter Tryz.func64, Tryz.ntmps64
  go_wp2_with fail
  refine C1.out.mono ?_
  rintro e w1 ⟨rfl, hS, hb⟩
  have C2 := Lib.hid (contains_calls _ _ P ⟨#[]⟩ w1 hS)
  rw [Hc.out] at C2
  clear hS C1
  go_wp2_with fail
  refine C2.out.mono ?_
  rintro e w2 ⟨rfl, rfl⟩
  go_wp2_with fail
  go_ret2
  exact ⟨rfl, hb⟩
set_option maxHeartbeats 1000000 in
theorem wordsGood_calls (s : ByteArray) (w : World) (hs : s.size ≤ 100000) (hG : GlobT w) (h : goodW s = true) :
    Calls Tryz.prog 64 #[.string s] w fun e w' => e = .returned (.tuple #[.slice (some ⟨w.heap.size, 0, none⟩) (wsL s).length (wsL s).length, .bool true]) ∧ Strs w' w.heap.size (.slice (some ⟨w.heap.size, 0, none⟩) (wsL s).length (wsL s).length) (wsL s) ∧ Below w.heap.size w w' := by
  have C1 := Lib.hid (split_calls s 32 w hs hG)
  have hc : cnS (wsL s) ⟨#[]⟩ = false := by unfold goodW at h; simpa using h
  have Hc := Lib.hid hc
  unfold wsL at Hc ⊢
  generalize Lib.splitB ⟨#[32]⟩ 0 (Lib.countB s ⟨#[32]⟩) s = P at C1 Hc ⊢
  clear hs hG h hc
  go_enter Tryz.func64, Tryz.ntmps64
  go_wp2_with fail
  refine C1.out.mono ?_
  rintro e w1 ⟨rfl, hS, hb⟩
  have C2 := Lib.hid (contains_calls _ _ P ⟨#[]⟩ w1 hS)
  rw [Hc.out] at C2
  have HS := Lib.hid hS
  clear hS C1
  go_wp2_with fail
  refine C2.out.mono ?_
  rintro e w2 ⟨rfl, rfl⟩
  go_wp2_with fail
  go_ret2
  exact ⟨rfl, HS.out, hb⟩
set_option maxHeartbeats 1000000 in
theorem wordsR_calls (s : ByteArray) (w : World) (hs : s.size ≤ 100000) (hG : GlobT w) :
    Calls Tryz.prog 38 #[.string s] w fun e w' => e = .returned (.tuple #[.slice (some ⟨w.heap.size, 0, none⟩) (wsL s).length (wsL s).length, .bool (goodW s)]) ∧ Strs w' w.heap.size (.slice (some ⟨w.heap.size, 0, none⟩) (wsL s).length (wsL s).length) (wsL s) ∧ Below w.heap.size w w' := by
  have C1 := Lib.hid (split_calls s 32 w hs hG)
  have Hc := Lib.hid (show (!cnS (wsL s) ⟨#[]⟩) = goodW s from rfl)
  unfold wsL at Hc ⊢
  generalize Lib.splitB ⟨#[32]⟩ 0 (Lib.countB s ⟨#[32]⟩) s = P at C1 Hc ⊢
  clear hs hG
  go_enter Tryz.func38, Tryz.ntmps38
  go_wp2_with fail
  refine C1.out.mono ?_
  rintro e w1 ⟨rfl, hS, hb⟩
  have C2 := Lib.hid (contains_calls _ _ P ⟨#[]⟩ w1 hS)
  have HS := Lib.hid hS
  clear hS C1
  go_wp2_with fail
  refine C2.out.mono ?_
  rintro e w2 ⟨rfl, rfl⟩
  go_wp2_with fail
  go_ret2
  rw [← Hc.out]
  exact ⟨rfl, HS.out, hb⟩
/-- What stands ahead of the first slash, and behind it. -/
def cutB (s : ByteArray) : ByteArray := ⟨(cutF s.data.toList).1.toArray⟩
def cutC (s : ByteArray) : ByteArray := ⟨(cutF s.data.toList).2.toArray⟩
theorem cutSl_calls (s : ByteArray) (w : World) (hs : s.size ≤ 100000) (hG : GlobT w) :
    Calls Tryz.prog 63 #[.string s, .string ⟨#[47]⟩] w fun e w' => ∃ b, e = .returned (.tuple #[.string (cutB s), .string (cutC s), .bool b]) ∧ Below w.heap.size w w' := by
  obtain ⟨m, hm⟩ := hG.max
  refine (Tryz.strings_Cut s ⟨#[47]⟩ m w (by omega) hm).mono ?_
  rintro e w' ⟨rfl, n, rfl⟩
  exact ⟨_, rfl, have h := Below.refl w.heap.size w; ⟨h.os, h.tape, h.output, h.size, h.block⟩⟩
theorem fracV_some {l : List UInt8} {f : Int × Int} (h : fracV l = some f) : numV (cutF l).1 = some f.1 ∧ numV (cutF l).2 = some f.2 := by
  unfold fracV at h
  split at h
  · rename_i a b h1 h2
    cases h
    exact ⟨h1, h2⟩
  · cases h
theorem fracV_both (l : List UInt8) : (fracV l).isSome = ((numV (cutF l).1).isSome && (numV (cutF l).2).isSome) := by
  unfold fracV
  cases numV (cutF l).1 <;> cases numV (cutF l).2 <;> rfl
theorem fracV_get {l : List UInt8} (h : (fracV l).isSome = true) : (fracV l).getD (0, 0) = ((numV (cutF l).1).getD 0, (numV (cutF l).2).getD 0) := by
  unfold fracV at h ⊢
  cases h1 : numV (cutF l).1 <;> cases h2 : numV (cutF l).2 <;> simp_all
theorem fracV_nil {l : List UInt8} (h : (fracV l).isSome = false) : (fracV l).getD (0, 0) = (0, 0) := by
  cases hf : fracV l with
  | none => rfl
  | some f => rw [hf] at h; cases h
set_option maxRecDepth 100000 in
set_option maxHeartbeats 2000000 in
theorem fracRead_calls (s : ByteArray) (w : World) (hs : s.size ≤ 100000) (hG : GlobT w) :
    Calls Tryz.prog 66 #[.string s, .int .i64 15] w fun e w' => e = .returned (.tuple #[frV ((fracV s.data.toList).getD (0, 0)), .bool (fracV s.data.toList).isSome]) ∧ Below w.heap.size w w' := by
  have hb0 := below_alloc w (.cells #[.int .i64 0, .int .i64 0] 38)
  have hx0 := heap_alloc_new w (.cells #[.int .i64 0, .int .i64 0] 38)
  have HG := Lib.hid (fun w' (hb : Below w.heap.size w w') => hG.below hb)
  have C1 := Lib.hid (fun w' (hb : Below w.heap.size w w') => cutSl_calls s w' hs (hG.below hb))
  have C2 := Lib.hid (fun w' (hb : Below w.heap.size w w') => number_calls (cutB s) w' (hG.below hb))
  have C3 := Lib.hid (fun w' (hb : Below w.heap.size w w') => number_calls (cutC s) w' (hG.below hb))
  have e1 : (cutB s).data.toList = (cutF s.data.toList).1 := rfl
  have e2 : (cutC s).data.toList = (cutF s.data.toList).2 := rfl
  rw [e1] at C2
  rw [e2] at C3
  have HB := Lib.hid (fracV_both s.data.toList)
  have HY := Lib.hid (fun h => fracV_get (l := s.data.toList) h)
  have HN := Lib.hid (fun h => fracV_nil (l := s.data.toList) h)
  generalize (fracV s.data.toList).isSome = b at HB HY HN ⊢
  generalize (fracV s.data.toList).getD (0, 0) = f at HY HN ⊢
  generalize (numV (cutF s.data.toList).1).isSome = b1 at HB C2
  generalize (numV (cutF s.data.toList).1).getD 0 = n1 at HY C2
  generalize (numV (cutF s.data.toList).2).isSome = b2 at HB C3
  generalize (numV (cutF s.data.toList).2).getD 0 = n2 at HY C3
  have Hx := Lib.hid hx0
  clear hx0 e1 e2 hs hG
  go_enter Tryz.func66, Tryz.ntmps66
  go_wp2_with fail
  refine (C1.out _ hb0).mono ?_
  rintro e w1 ⟨q, rfl, hb1⟩
  have hb01 := below_step hb0 hb1
  have hx1 := cells_later Hx.out hb1
  have Hx1 := Lib.hid hx1
  generalize cutB s = B1 at C2 ⊢
  generalize cutC s = B2 at C3 ⊢
  clear hb0 hb1 hx1 C1
  go_wp2_with fail
  refine (C2.out _ hb01).mono ?_
  rintro e w2 ⟨rfl, hb2⟩
  have hb02 := below_step hb01 hb2
  have Hx2 := Lib.hid (cells_later Hx1.out hb2)
  clear hb01 hb2 C2
  go_wp2_with fail
  refine (C3.out _ hb02).mono ?_
  rintro e w3 ⟨rfl, hb3⟩
  have hb03 := below_step hb02 hb3
  have hx3 := cells_later Hx2.out hb3
  have f0 := free_of hx3 0
  have f1 := free_of hx3 1
  have g0 := cell_at hx3 0 rfl
  have g1 := cell_at hx3 1 rfl
  have Hb3 := Lib.hid hb03
  clear hb02 hb3 C3 hx3 hb03
  cases hb1 : b1
  · have hb : b = false := by rw [HB.out, hb1]; rfl
    have Hf := Lib.hid (HN.out hb)
    subst hb
    clear hb1 HB HY HN
    go_wp2_with fail
    try simp only [Exit.inBlock, Exit.then]
    refine bodyPost_ret (v := .tuple #[.agg #[.int .i64 0, .int .i64 0], .bool false]) ?_ rfl ⟨by rw [Hf.out]; rfl, (Hb3.out.setCell (p := ⟨w.heap.size, 0, none⟩) (Nat.le_refl _) _).setCell (p := ⟨w.heap.size, 1, none⟩) (Nat.le_refl _) _⟩
    rw [results_cell_tmp rfl]
    go_simp
  cases hb2 : b2
  · have hb : b = false := by rw [HB.out, hb1, hb2]; rfl
    have Hf := Lib.hid (HN.out hb)
    subst hb
    clear hb1 hb2 HB HY HN
    go_wp2_with fail
    try simp only [Exit.inBlock, Exit.then]
    refine bodyPost_ret (v := .tuple #[.agg #[.int .i64 0, .int .i64 0], .bool false]) ?_ rfl ⟨by rw [Hf.out]; rfl, (Hb3.out.setCell (p := ⟨w.heap.size, 0, none⟩) (Nat.le_refl _) _).setCell (p := ⟨w.heap.size, 1, none⟩) (Nat.le_refl _) _⟩
    rw [results_cell_tmp rfl]
    go_simp
  · have hb : b = true := by rw [HB.out, hb1, hb2]; rfl
    have Hf := Lib.hid (HY.out hb)
    subst hb
    clear hb1 hb2 HB HY HN
    go_wp2_with fail
    try simp only [Exit.inBlock, Exit.then]
    refine bodyPost_ret (v := .tuple #[.agg #[.int .i64 n1, .int .i64 n2], .bool true]) ?_ rfl ⟨by rw [Hf.out]; rfl, (Hb3.out.setCell (p := ⟨w.heap.size, 0, none⟩) (Nat.le_refl _) _).setCell (p := ⟨w.heap.size, 1, none⟩) (Nat.le_refl _) _⟩
    rw [results_cell_tmp rfl]
    go_simp
end Go.Proofs.YtmejjkicagkogaaGreatDoor
