/- Words put in order by their length: slices.SortFunc at few strings. -/
import Derived.Test.YtmjkbmkjnbpgeaaGreatDoorFc
import Derived.Test.YtmjkbmkjnbpgeaaGreatDoorBf
namespace Go.Proofs.YtmjkbmkjnbpgeaaGreatDoor
open Go.RowKit

abbrev lenFn : Value := .func (.func 136) #[] #[]
theorem lenCmp_calls (a b : ByteArray) (w : World) (ha : a.size ≤ 1000000) (hb : b.size ≤ 1000000) :
    Calls Tryz.prog 136 #[.string a, .string b] w fun e w' => e = .returned (.int .i64 ((b.size : Int) - (a.size : Int))) ∧ w = w' := by
  have x1 : IntKind.i64.wrap ((b.size : Int) - (a.size : Int)) = (b.size : Int) - (a.size : Int) := IntWalk.i64_in _ (by omega)
  go_enter Tryz.func136, Tryz.ntmps136
  go_wp2_with fail
  go_ret
  exact ⟨ret_int (by first | rfl | exact x1), rfl⟩
/-- A word sinks as long as the one ahead is shorter. -/
def sinkS : List ByteArray → Nat → List ByteArray
  | l, 0 => l
  | l, j + 1 => if (strAt l j).size < (strAt l (j + 1)).size then sinkS ((l.set (j + 1) (strAt l j)).set j (strAt l (j + 1))) j else l
def insTo (ks : List ByteArray) : Nat → List ByteArray
  | 0 => ks
  | i + 1 => sinkS (insTo ks i) i
/-- Words, the longest ones ahead. -/
def lenSort (ks : List ByteArray) : List ByteArray := insTo ks ks.length
theorem sinkS_length : ∀ (j : Nat) (l : List ByteArray), (sinkS l j).length = l.length
  | 0, _ => rfl
  | j + 1, l => by
    unfold sinkS
    split
    · rw [sinkS_length j]; simp
    · rfl
theorem insTo_length (ks : List ByteArray) : ∀ i, (insTo ks i).length = ks.length
  | 0 => rfl
  | i + 1 => by unfold insTo; rw [sinkS_length, insTo_length ks i]
theorem lenSort_length (ks : List ByteArray) : (lenSort ks).length = ks.length := insTo_length ks _
theorem strAt_mem' {ks : List ByteArray} {M : Nat} (h : ∀ k ∈ ks, k.size ≤ M) (i : Nat) : (strAt ks i).size ≤ M := by
  unfold strAt
  cases hk : ks[i]? with
  | none => exact Nat.zero_le _
  | some k => exact h k (List.mem_of_getElem? hk)
theorem sinkS_small {M : Nat} : ∀ (j : Nat) (l : List ByteArray), (∀ k ∈ l, k.size ≤ M) → ∀ k ∈ sinkS l j, k.size ≤ M
  | 0, _, h => h
  | j + 1, l, h => by
    unfold sinkS
    split
    · refine sinkS_small j _ fun k hk => ?_
      rcases List.mem_or_eq_of_mem_set hk with hk | rfl
      · rcases List.mem_or_eq_of_mem_set hk with hk | rfl
        · exact h k hk
        · exact strAt_mem' h _
      · exact strAt_mem' h _
    · exact h
theorem insTo_small {M : Nat} {ks : List ByteArray} (h : ∀ k ∈ ks, k.size ≤ M) : ∀ i, ∀ k ∈ insTo ks i, k.size ≤ M
  | 0 => h
  | i + 1 => by unfold insTo; exact sinkS_small i _ (insTo_small h i)
def SortedL (g off : Nat) (ks : List ByteArray) (w : World) (e : Ending) (w' : World) : Prop := e = .returned (.tuple #[]) ∧ RowsAt w' 9 g off 1 ((lenSort ks).map sRow) ∧ w.grownBy w' (some g)
set_option maxRecDepth 100000 in
set_option maxHeartbeats 4000000 in
theorem insS_calls (g off cap : Nat) (ks : List ByteArray) (w : World) (hv : RowsAt w 9 g off 1 (ks.map sRow)) (hn : ks.length ≤ 12) (h1 : 1 ≤ ks.length) (hk : ∀ k ∈ ks, k.size ≤ 1000) :
    Calls Tryz.prog 232 #[.slice (some ⟨g, off, none⟩) ks.length cap, .int .i64 0, .int .i64 (ks.length : Int), lenFn] w (SortedL g off ks w) := by
  have HK := Lib.hid hk
  have HE := Lib.hid (show lenSort ks = insTo ks ks.length from rfl)
  have HI := Lib.hid (insTo_small hk)
  have HL := Lib.hid (insTo_length ks)
  unfold SortedL
  generalize lenSort ks = E at HE ⊢
  clear hk
  obtain ⟨n, hnn⟩ : ∃ n, ks.length = n := ⟨_, rfl⟩
  rw [hnn] at hn h1 HE HL ⊢
  go_enter Tryz.func232, Tryz.ntmps232
  go_wp2_with fail
  go_loopw [8] (fun i wr => ∃ (k : Nat), i = .int .i64 k ∧ 1 ≤ k ∧ k ≤ n ∧ RowsAt wr 9 g off 1 ((insTo ks k).map sRow) ∧ w.grownBy wr (some g)) (fun i _ => n - (intOf i).toNat)
  case atStart => exact ⟨1, rfl, by omega, by omega, hv, gb_refl _ _⟩
  case round =>
    obtain ⟨k, rfl, hk1, hk2, hr, hg⟩ := hrel
    clear hv
    by_cases hlt : k < n
    · obtain ⟨wo, rfl⟩ : ∃ wo : World, wo = wr := ⟨_, rfl⟩
      have HX := Lib.hid (show insTo ks (k + 1) = sinkS (insTo ks k) k from rfl)
      have hl0 := HL.out k
      have hi0 := Lib.hid (HI.out k)
      go_wp2_with fail
      go_loopw [9] (fun j wr => ∃ (m : Nat) (l : List ByteArray), j = .int .i64 m ∧ m ≤ k ∧ l.length = n ∧ Hid (sinkS l m = insTo ks (k + 1)) ∧ Hid (∀ x ∈ l, x.size ≤ 1000) ∧ RowsAt wr 9 g off 1 (l.map sRow) ∧ w.grownBy wr (some g)) (fun j _ => (intOf j).toNat)
      case atStart => exact ⟨k, insTo ks k, rfl, Nat.le_refl _, hl0, Lib.hid HX.out.symm, hi0, hr, hg⟩
      case round =>
        clear hr hg hl0
        obtain ⟨m, l, rfl, hm, hlen, Hsk, Hsm, hr', hg'⟩ := hrel
        by_cases hm0 : m = 0
        · subst hm0
          have hl : l = insTo ks (k + 1) := Hsk.out
          subst hl
          go_wp2_with fail
          go_quiet (fail)
          go_wp2_with fail
          go_roundw
          case rel => exact ⟨k + 1, by go_num, by omega, by omega, hr', gb_trans hg' (gb_drewN _ _ _)⟩
          case measure => simp [intOf]; omega
        · obtain ⟨fm, hfm⟩ : ∃ f, l[m]? = some f := ⟨_, List.getElem?_eq_getElem (show m < l.length by omega)⟩
          obtain ⟨fp, hfp⟩ : ∃ f, l[m - 1]? = some f := ⟨_, List.getElem?_eq_getElem (show m - 1 < l.length by omega)⟩
          have a0 := s_cell hr' hfm
          have b0 := s_cell hr' hfp
          have hs1 := Hsm.out fm (List.mem_of_getElem? hfm)
          have hs2 := Hsm.out fp (List.mem_of_getElem? hfp)
          have Hfm := Lib.hid hfm
          have Hfp := Lib.hid hfp
          have Hst := Lib.hid (show sinkS l m = if fp.size < fm.size then sinkS ((l.set m fp).set (m - 1) fm) (m - 1) else l by
            obtain ⟨m', rfl⟩ : ∃ m', m = m' + 1 := ⟨m - 1, by omega⟩
            rw [Nat.add_sub_cancel] at hfp ⊢
            rw [sinkS, strAt_some hfm, strAt_some hfp])
          have e0 : 0 < m := by omega
          have e0' : decide (0 < m) = true := decide_eq_true e0
          have w1 : IntKind.i64.wrap ((m : Int) - 1) = ((m - 1 : Nat) : Int) := by rw [IntWalk.i64_in _ (by omega)]; omega
          have w2 : ((m - 1 : Nat) : Int) < (n : Int) := by omega
          have w3 : (m : Int) < (n : Int) := by omega
          have HS := Lib.hid (show ∀ w', Below wr.heap.size wr w' → (Below wr.heap.size wr w' ∧ w'.cell? ⟨g, off + m, none⟩ = some (.string fm) ∧ w'.cell? ⟨g, off + (m - 1), none⟩ = some (.string fp)) from fun w' hb => ⟨hb, below_cell hb a0, below_cell hb b0⟩)
          have hb0 := (Below.refl wr.heap.size wr).drew
          have CL := Lib.hid (fun w' => lenCmp_calls fm fp w' (by omega) (by omega))
          obtain ⟨x, hx0⟩ : ∃ x, (fp.size : Int) - (fm.size : Int) = x := ⟨_, rfl⟩
          rw [hx0] at CL
          have Hx0 := Lib.hid hx0
          have Ha0 := Lib.hid a0
          have Hb0 := Lib.hid b0
          clear hfm hfp a0 b0 hs1 hs2 hx0
          go_upto_region 4 with fail
          refine wp_region_held_drew (S := fun w' => Below wr.heap.size wr w' ∧ w'.cell? ⟨g, off + m, none⟩ = some (.string fm) ∧ w'.cell? ⟨g, off + (m - 1), none⟩ = some (.string fp)) (by kernel_rfl) ?_ (fun hHeld => ?_)
          · (exact HS.out _ (by first | assumption | exact hHeld.1 | exact below_step hHeld.1 (by assumption) | exact below_step hHeld.1 (below_alloc _ _)))
          refine take_at 0 18 (v := ?_) rfl rfl (by kernel_rfl) (by kernel_rfl) (by kernel_rfl) (fun _ _ _ h => h) (by rfl) ?y0 (by assumption) ?r0
          case y0 =>
            intro w hSw
            try dsimp only at hSw
            go_simp
            try with_reducible rfl
          simp only [List.set_cons_zero, List.set_cons_succ]
          refine take_at 1 19 (v := ?_) rfl rfl (by kernel_rfl) (by kernel_rfl) (by kernel_rfl) (fun _ _ _ h => h) (by rfl) ?y1 (by assumption) ?r1
          case y1 =>
            intro w hSw
            try dsimp only at hSw
            go_simp
            try with_reducible rfl
          simp only [List.set_cons_zero, List.set_cons_succ]
          refine take_at 2 20 (v := ?_) rfl rfl (by kernel_rfl) (by kernel_rfl) (by kernel_rfl) (fun _ _ _ h => h) (by rfl) ?y2 (by assumption) ?r2
          case y2 =>
            intro w hSw
            try dsimp only at hSw
            go_simp
            try with_reducible rfl
          simp only [List.set_cons_zero, List.set_cons_succ]
          refine take_at 3 21 (v := ?_) rfl rfl (by kernel_rfl) (by kernel_rfl) (by kernel_rfl) (fun _ _ _ h => h) (by rfl) ?y3 (by assumption) ?r3
          case y3 =>
            intro w hSw
            try dsimp only at hSw
            go_simp
            try with_reducible rfl
          simp only [List.set_cons_zero, List.set_cons_succ]
          refine take_at 4 22 (v := ?_) rfl rfl (by kernel_rfl) (by kernel_rfl) (by kernel_rfl) (fun _ _ _ h => h) (by rfl) ?y4 (by assumption) ?r4
          case y4 =>
            intro w hSw
            try dsimp only at hSw
            go_simp
            try with_reducible rfl
          simp only [List.set_cons_zero, List.set_cons_succ]
          refine take_at 5 23 (v := ?_) rfl rfl (by kernel_rfl) (by kernel_rfl) (by kernel_rfl) (fun _ _ _ h => h) (by rfl) ?y5 (by assumption) ?r5
          case y5 =>
            intro w hSw
            try dsimp only at hSw
            go_simp
            try with_reducible rfl
          simp only [List.set_cons_zero, List.set_cons_succ]
          refine take_at 6 24 (v := ?_) rfl rfl (by kernel_rfl) (by kernel_rfl) (by kernel_rfl) (fun _ _ _ h => h) (by rfl) ?y6 (by assumption) ?r6
          case y6 =>
            intro w hSw
            try dsimp only at hSw
            go_simp
            try with_reducible rfl
          simp only [List.set_cons_zero, List.set_cons_succ]
          refine take_at 7 25 (v := ?_) rfl rfl (by kernel_rfl) (by kernel_rfl) (by kernel_rfl) (fun _ _ _ h => h) (by rfl) ?y7 (by assumption) ?r7
          case y7 =>
            intro w hSw
            try dsimp only at hSw
            go_simp
            try with_reducible rfl
          simp only [List.set_cons_zero, List.set_cons_succ]
          refine take_at 8 26 (v := ?_) rfl rfl (by kernel_rfl) (by kernel_rfl) (by kernel_rfl) (fun _ _ _ h => h) (by rfl) ?y8 (by assumption) ?r8
          case y8 =>
            intro w hSw
            try dsimp only at hSw
            go_simp
            try with_reducible rfl
          simp only [List.set_cons_zero, List.set_cons_succ]
          refine take_at 9 27 (v := ?_) rfl rfl (by kernel_rfl) (by kernel_rfl) (by kernel_rfl) (fun _ _ _ h => h) (by rfl) ?y9 (by assumption) ?r9
          case y9 =>
            intro w hSw
            try dsimp only at hSw
            go_simp
            try with_reducible rfl
          simp only [List.set_cons_zero, List.set_cons_succ]
          refine take_at 10 28 (v := ?_) rfl rfl (by kernel_rfl) (by kernel_rfl) (by kernel_rfl) (fun _ _ _ h => h) (by rfl) ?y10 (by assumption) ?r10
          case y10 =>
            intro w hSw
            try dsimp only at hSw
            go_simp
            try with_reducible rfl
          simp only [List.set_cons_zero, List.set_cons_succ]
          refine take_at 11 29 (v := ?_) rfl rfl (by kernel_rfl) (by kernel_rfl) (by kernel_rfl) (fun _ _ _ h => h) (by rfl) ?y11 (by assumption) ?r11
          case y11 =>
            intro w hSw
            try dsimp only at hSw
            go_simp
            try with_reducible rfl
          simp only [List.set_cons_zero, List.set_cons_succ]
          refine take_at 12 30 (v := ?_) rfl rfl (by kernel_rfl) (by kernel_rfl) (by kernel_rfl) (fun _ _ _ h => h) (by rfl) ?y12 (by assumption) ?r12
          case y12 =>
            intro w hSw
            try dsimp only at hSw
            go_simp
            try with_reducible rfl
          simp only [List.set_cons_zero, List.set_cons_succ]
          refine take_at 13 31 (v := ?_) rfl rfl (by kernel_rfl) (by kernel_rfl) (by kernel_rfl) (fun _ _ _ h => h) (by rfl) ?y13 (by assumption) ?r13
          case y13 =>
            intro w hSw
            try dsimp only at hSw
            go_simp
            try with_reducible rfl
          simp only [List.set_cons_zero, List.set_cons_succ]
          refine run_at 14 rfl (by kernel_rfl) (by rfl) (fun K hK => ?_)
          go_simp
          refine (CL.out _).mono ?_
          rintro e w' ⟨rfl, rfl⟩
          go_wp2_with fail
          refine hK.out _ _ ?_ (fun hHeld => ?_)
          · (exact HS.out _ (by first | assumption | exact hHeld.1 | exact below_step hHeld.1 (by assumption) | exact below_step hHeld.1 (below_alloc _ _)))
          clear hK K
          try simp only [Act.put, List.setIfInBounds_toArray, List.set_cons_zero, List.set_cons_succ]
          refine take_at 15 33 (v := ?_) rfl rfl (by kernel_rfl) (by kernel_rfl) (by kernel_rfl) (fun _ _ _ h => h) (by rfl) ?y15 (by assumption) ?r15
          case y15 =>
            intro w hSw
            try dsimp only at hSw
            go_simp
            try with_reducible rfl
          simp only [List.set_cons_zero, List.set_cons_succ]
          refine take_at 16 34 (v := ?_) rfl rfl (by kernel_rfl) (by kernel_rfl) (by kernel_rfl) (fun _ _ _ h => h) (by rfl) ?y16 (by assumption) ?r16
          case y16 =>
            intro w hSw
            try dsimp only at hSw
            go_simp
            try with_reducible rfl
          simp only [List.set_cons_zero, List.set_cons_succ]
          refine wpAnyH_done (by kernel_rfl) ?_ _
          have hB := hHeld.1
          by_cases hx : x < 0
          · have d1 : decide (x < 0) = true := decide_eq_true hx
            obtain ⟨-, c0, d0⟩ := hHeld
            have f0 := fun o => (hr'.below hB).free o
            have f1 := fun o => hr'.free o
            have c9 := Ha0.out
            have d9 := Hb0.out
            have Hsk' := Lib.hid (show sinkS ((l.set m fp).set (m - 1) fm) (m - 1) = insTo ks (k + 1) by
              have h := Hst.out
              rw [if_pos (by have := Hx0.out; omega)] at h
              rw [← h]; exact Hsk.out)
            go_wp2_with fail
            go_region
            go_wp2_with fail
            go_roundw
            case rel =>
              refine ⟨m - 1, (l.set m fp).set (m - 1) fm, rfl, by omega, by simpa using hlen, Hsk', ?_, ?_, ?_⟩
              · refine Lib.hid fun f hf => ?_
                rcases List.mem_or_eq_of_mem_set hf with hf | rfl
                · rcases List.mem_or_eq_of_mem_set hf with hf | rfl
                  · exact Hsm.out f hf
                  · exact Hsm.out _ (List.mem_of_getElem? Hfp.out)
                · exact Hsm.out _ (List.mem_of_getElem? Hfm.out)
              · exact RowsAt.drew (s_set (s_set (hr'.below hB) Hfm.out fp) (by rw [List.getElem?_set_ne (by omega)]; exact Hfp.out) fm)
              · exact gb_drew' (gb_trans hg' (gb_trans (gb_below hB _) (gb_trans (gb_setCell _ _ _ _) (gb_setCell _ _ _ _))))
            case measure => simp [intOf]; omega
          · have d1 : decide (x < 0) = false := decide_eq_false hx
            have hl : l = insTo ks (k + 1) := by
              have h := Hst.out
              rw [if_neg (by have := Hx0.out; omega)] at h
              rw [← h]; exact Hsk.out
            have hr2 := hr'.below hB
            rw [hl] at hr2
            clear hHeld
            go_wp2_with fail
            go_roundw
            case rel => exact ⟨k + 1, by go_num, by omega, by omega, hr2, gb_trans hg' (gb_below hB _)⟩
            case measure => simp [intOf]; omega
    · obtain rfl : k = n := by omega
      rw [← HE.out] at hr
      go_wp2_with fail
      go_end0
      exact ⟨rfl, hr, hg⟩
set_option maxRecDepth 100000 in
set_option maxHeartbeats 4000000 in
theorem pdqS_calls (g off cap : Nat) (lim : Int) (ks : List ByteArray) (w : World) (hv : RowsAt w 9 g off 1 (ks.map sRow)) (hn : ks.length ≤ 12) (h1 : 1 ≤ ks.length) (hk : ∀ k ∈ ks, k.size ≤ 1000) :
    Calls Tryz.prog 191 #[.slice (some ⟨g, off, none⟩) ks.length cap, .int .i64 0, .int .i64 (ks.length : Int), .int .i64 lim, lenFn] w (SortedL g off ks w) := by
  have C := Lib.hid (insS_calls g off cap ks w hv hn h1 hk)
  have HQ := Lib.hid (show ∀ e w', SortedL g off ks w e w' → e = .returned (.tuple #[]) ∧ SortedL g off ks w (.returned (.tuple #[])) w' from fun e w' h => ⟨h.1, rfl, h.2⟩)
  clear hv hk
  generalize ks.length = n at hn h1 C ⊢
  have e1 : decide (n ≤ 12) = true := decide_eq_true hn
  have e2 : decide ((n : Int) ≤ 12) = true := decide_eq_true (by omega)
  go_enter Tryz.func191, Tryz.ntmps191
  go_wp2_with fail
  refine wp_loop_rounds 1 ?_
  rw [rounds_succ]
  go_wp2_with fail
  refine C.out.mono ?_
  intro e w' h
  obtain ⟨rfl, h⟩ := HQ.out e w' h
  go_wp2_with fail
  go_end0
  exact h
set_option maxRecDepth 100000 in
set_option maxHeartbeats 4000000 in
theorem sortFunc_calls (g off cap : Nat) (ks : List ByteArray) (w : World) (hv : RowsAt w 9 g off 1 (ks.map sRow)) (hn : ks.length ≤ 12) (h1 : 1 ≤ ks.length) (hk : ∀ k ∈ ks, k.size ≤ 1000) :
    Calls Tryz.prog 135 #[.slice (some ⟨g, off, none⟩) ks.length cap, lenFn] w (SortedL g off ks w) := by
  have C := Lib.hid (fun lim => pdqS_calls g off cap lim ks w hv hn h1 hk)
  have HQ := Lib.hid (show ∀ e w', SortedL g off ks w e w' → e = .returned (.tuple #[]) ∧ SortedL g off ks w (.returned (.tuple #[])) w' from fun e w' h => ⟨h.1, rfl, h.2⟩)
  clear hv hk
  generalize ks.length = n at hn h1 C ⊢
  have CB := Lib.hid (Tryz.bits_Len (n : Int) w (by omega) (by omega))
  have x1 : IntKind.u64.wrap (n : Int) = (n : Int) := IntWalk.u64_in _ (by omega)
  go_enter Tryz.func135, Tryz.ntmps135
  go_wp2_with fail
  refine CB.out.mono ?_
  rintro e w' ⟨rfl, rfl⟩
  go_wp2_with fail
  refine (C.out _).mono ?_
  intro e w' h
  obtain ⟨rfl, h⟩ := HQ.out e w' h
  go_wp2_with fail
  go_end0
  exact h
end Go.Proofs.YtmjkbmkjnbpgeaaGreatDoor
