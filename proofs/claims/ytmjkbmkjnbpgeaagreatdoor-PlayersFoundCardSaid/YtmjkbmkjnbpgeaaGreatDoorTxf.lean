/- Players read: the program's Read, and the reference's. -/
import Derived.Test.YtmjkbmkjnbpgeaaGreatDoorTxe
import Derived.Test.YtmjkbmkjnbpgeaaGreatDoorBi
namespace Go.Proofs.YtmjkbmkjnbpgeaaGreatDoor
open Go.RowKit

set_option maxRecDepth 100000 in
set_option maxHeartbeats 2000000 in
theorem read_calls (u : ByteArray) (w : World) (hu : u.size ≤ 900) (hG : Glob w) :
    Calls Tryz.prog 63 #[.string u] w fun e w' => ∃ v, e = .returned (.tuple #[v, .int .i64 (readR u).2.1, .int .i64 (readR u).2.2]) ∧ Plays w' w.heap.size v (readR u).1 ∧ Below w.heap.size w w' := by
  have C := Lib.hid (readLines_calls u w hu hG)
  generalize readR u = R at C ⊢
  clear hG
  go_enter Tryz.func63, Tryz.ntmps63
  go_wp2_with fail
  refine C.out.mono ?_
  rintro e w1 ⟨v, rfl, hP, hb⟩
  obtain ⟨a, c, rfl⟩ := plays_shape hP
  have HP := Lib.hid hP
  clear hP C
  go_wp2_with fail
  go_ret3
  exact ⟨_, rfl, HP.out, hb⟩
theorem plays_monoT {w : World} {lo lo' : Nat} {v : Value} {ps : List PD} (h : Plays w lo v ps) (hl : lo' ≤ lo) : Plays w lo' v ps := by
  obtain ⟨pvs, a, b, c⟩ := h
  exact ⟨pvs, a, Rows.mono b hl, fun i x p hx hp => (c i x p hx hp).mono hl⟩
theorem tookP_ok {s : ByteArray} (L : List PD) (h : parseB s = true) : tookP s L = L ++ [lineP s] := by
  unfold tookP tookB
  unfold parseB at h
  rw [Bool.and_eq_true] at h
  rw [if_pos h.1]
def numR (T : List PD × Nat × Bool) : Int := if T.2.2 then 0 else (T.2.1 : Int)
def takeFn (O : Nat) : Value := .func (.func 141) #[] #[.pointer (some ⟨O, 0, none⟩)]
set_option maxRecDepth 100000 in
set_option maxHeartbeats 8000000 in
theorem linesR_calls (u : ByteArray) (O base : Nat) (w : World) (hu : u.size ≤ 900) (hG : ∀ w', Below O w w' → Glob w') (hO : Outs w base O []) (hOb : O < base) (hbase : base ≤ w.heap.size) :
    Calls Tryz.prog 140 #[.string u, takeFn O] w fun e w' => ∃ L, e = .returned (.tuple #[.int .i64 (numR (readGo u.size u [] 0)), .bool (readGo u.size u [] 0).2.2]) ∧
      Outs w' base O L ∧ L.length ≤ 10000 ∧ ((readGo u.size u [] 0).2.2 = true → L = (readGo u.size u [] 0).1 ∧ ∀ p ∈ L, SmallP p) ∧ Below O w w' := by
  obtain ⟨T, hT⟩ : ∃ T, readGo u.size u [] 0 = T := ⟨_, rfl⟩
  rw [hT]
  have HT := Lib.hid hT
  have HG := Lib.hid hG
  have HO := Lib.hid hO
  clear hT hG hO
  unfold takeFn
  go_enter Tryz.func140, Tryz.ntmps140
  go_wp2_with fail
  go_loopw [0, 6] (fun t i wr => ∃ (f : Nat) (s : ByteArray) (L : List PD) (n : Nat), t = .string s ∧ i = .int .i64 n ∧ Hid (readGo f s L n = T) ∧ s.size ≤ f ∧ s.size ≤ 900 ∧ L.length + s.size ≤ 900 ∧ n + s.size ≤ 900 ∧ Hid (Outs wr base O L) ∧ base ≤ wr.heap.size ∧ Hid (∀ p ∈ L, SmallP p) ∧ Below O w wr) (fun t _ _ => strLen t)
  case atStart => exact ⟨u.size, u, [], 0, rfl, rfl, HT, Nat.le_refl _, hu, by simpa using hu, by simpa using hu, HO, hbase, Lib.hid (by simp), Below.refl _ _⟩
  case round =>
    obtain ⟨f, s, L, n, rfl, rfl, Hgo, hf, hs, hL, hn, HP, hbw, HSm, hb⟩ := hrel
    cases he : s.toList.isEmpty
    · have hpos := empty_size he
      have C1 := Lib.hid (cutM_calls s wr (by omega) (HG.out _ hb))
      have hl := cutL_line s
      have Hbad := Lib.hid (fun h => readGo_bad (L := L) (n := n) hf he h)
      have Hok := Lib.hid (fun h => readGo_ok (L := L) (n := n) hf he h)
      have Hrest := Lib.hid (fun h => cutL_rest (s := s) h)
      generalize (cutL s).1 = ln at C1 hl Hbad Hok
      generalize (cutL s).2.1 = rs at C1 Hok Hrest
      generalize (cutL s).2.2 = en at C1 Hbad Hok Hrest
      go_wp2_with fail
      refine C1.out.mono ?_
      rintro e w1 ⟨rfl, hb1⟩
      have hb01 := hb.trans (hb1.mono (by omega))
      have hs1 := hb1.size
      have HP1 := Lib.hid (HP.out.below hb1)
      have C2 := Lib.hid (readR1_calls ln O base L w1 (by omega) (HG.out _ hb01) HP1.out hOb (by omega) (by omega))
      clear C1 hb1 HP hb
      cases en
      · have hr := Lib.hid (show T = ([], n, false) by rw [← Hgo.out]; exact Hbad.out (by rfl))
        clear Hbad Hok Hrest C2 Hgo HT
        go_wp2_with fail
        go_ret2
        rw [hr.out]
        exact ⟨L, rfl, HP1.out, by omega, by simp, hb01⟩
      · go_wp2_with fail
        refine C2.out.mono ?_
        rintro e w2 ⟨rfl, hO2, hb2⟩
        have HO2 := Lib.hid hO2
        have hb02 := hb01.trans hb2
        have hs2 := hb2.size
        clear C2 hO2 hb2 HP1 hb01
        cases hp : parseB ln
        · have hr := Lib.hid (show T = ([], n, false) by rw [← Hgo.out]; exact Hbad.out (by rw [hp]; rfl))
          have htl : (tookP ln L).length ≤ 10000 := by
            unfold tookP
            split
            · simp; omega
            · omega
          clear Hbad Hok Hrest Hgo HT
          go_wp2_with fail
          go_ret2
          rw [hr.out]
          exact ⟨_, rfl, HO2.out, htl, by simp, hb02⟩
        · obtain ⟨f', hgo, hf'⟩ := Hok.out (by rw [hp]; rfl)
          have hrs := Hrest.out (by first | rfl | trivial)
          have hO2 := HO2.out
          rw [tookP_ok L hp] at hO2
          have HO3 := Lib.hid hO2
          have hsm := lineP_small ln (by omega)
          have Hgo' := Lib.hid (hgo.symm.trans Hgo.out)
          generalize lineP ln = p at HO3 Hgo' hsm
          have HSm' := Lib.hid (show ∀ q ∈ L ++ [p], SmallP q from fun q hq => by
            rcases List.mem_append.1 hq with h | h
            · exact HSm.out q h
            · rw [List.mem_singleton.1 h]; exact hsm)
          clear Hbad Hok Hrest hgo Hgo hO2 HO2 hsm HSm
          go_wp2_with fail
          go_roundw
          case rel => exact ⟨f', rs, L ++ [p], n + 1, rfl, by go_num, Hgo', hf', by omega, by simp; omega, by omega, HO3, by omega, HSm', hb02⟩
          case measure => simp [strLen]; omega
    · have hr := Lib.hid (show T = (L, n, true) by rw [← Hgo.out]; exact readGo_end he)
      clear Hgo HT
      go_wp2_with fail
      go_ret2
      rw [hr.out]
      exact ⟨L, rfl, HP.out, by omega, fun _ => ⟨rfl, HSm.out⟩, hb⟩
set_option maxRecDepth 100000 in
set_option maxHeartbeats 4000000 in
theorem playersRead_calls (u : ByteArray) (w : World) (hu : u.size ≤ 900) (hG : Glob w) :
    Calls Tryz.prog 64 #[.string u] w fun e w' => ∃ v, e = .returned (.tuple #[v, .int .i64 (readR u).2.1, .int .i64 (readR u).2.2]) ∧ Plays w' w.heap.size v (readR u).1 ∧ Below w.heap.size w w' := by
  have HR := Lib.hid (show readR u = if (readGo u.size u [] 0).2.2 then (if chkPs (readGo u.size u [] 0).1 = 0 then ((readGo u.size u [] 0).1, 0, 0) else ([], 0, chkPs (readGo u.size u [] 0).1)) else ([], ((readGo u.size u [] 0).2.1 : Int), 9) from rfl)
  have d0 : decide ((200000 : Int) < (u.size : Int)) = false := decide_eq_false (by omega)
  obtain ⟨W, hW⟩ : ∃ W, W = w.alloc (.cells #[.slice none 0 0] 26) := ⟨_, rfl⟩
  have hwW : Below w.heap.size w W := by rw [hW]; exact below_alloc w _
  have hO : Outs W (w.heap.size + 1) w.heap.size [] := ⟨.slice none 0 0, by rw [hW]; exact heap_alloc_new w _, [], rfl, World.ownsRow_nil _ _ _ _, by simp⟩
  have C1 := Lib.hid (linesR_calls u w.heap.size (w.heap.size + 1) W hu (fun w' h => hG.below (hwW.trans h)) hO (by omega) (by rw [hW]; simp))
  have HW := Lib.hid hW
  have HG := Lib.hid hG
  generalize readGo u.size u [] 0 = T at HR C1
  generalize readR u = R at HR ⊢
  clear hG hO hW
  go_enter Tryz.func64, Tryz.ntmps64
  go_upto_region 4 with fail
  rw [← HW.out]
  clear HW d0
  go_wp2_with fail
  refine C1.out.mono ?_
  rintro e w1 ⟨L, rfl, hO1, hl, hLT, hb1⟩
  have hb01 := hwW.trans hb1
  obtain ⟨v, hv, hP⟩ := hO1
  have o0 : w1.cell? ⟨w.heap.size, 0, none⟩ = some v := by rw [cell_of_row w1 _ _ _ _ _ hv]; rfl
  have hPl := (hP.plays (by omega))
  obtain ⟨va, vc, rfl⟩ := plays_shape hPl
  obtain ⟨T1, T2, ok⟩ := T
  cases ok
  · have hr := Lib.hid (show R = ([], (T2 : Int), 9) from HR.out)
    clear HR C1 hv hP hPl hLT o0
    go_wp2_with fail
    go_ret3
    exact ⟨.slice none 0 0, by rw [hr.out]; rfl, by rw [hr.out]; exact plays_nilT _ _, hb01⟩
  · obtain ⟨rfl, hsm⟩ := hLT rfl
    have HR' := Lib.hid (show R = if chkPs L = 0 then (L, 0, 0) else ([], 0, chkPs L) from HR.out)
    have C2 := Lib.hid (playersFault_calls _ _ L w1 hPl (fun p hp => ⟨hsm p hp, name_ok _ (by have := (hsm p hp).2.1; omega)⟩) (by omega) (HG.out.below hb01))
    have HPl := Lib.hid hPl
    have Hv := Lib.hid hv
    generalize chkPs L = X at C2 HR'
    clear HR C1 hv hP hPl hsm hLT
    go_wp2_with fail
    refine C2.out.mono ?_
    rintro e w2 ⟨rfl, hb2⟩
    have o2 := below_cell hb2 o0
    have hb02 := below_step hb01 hb2
    have HP2 := Lib.hid ((plays_monoT HPl.out (by omega : w.heap.size ≤ _)).below hb2)
    clear C2 hb2 o0 HPl Hv
    by_cases hz : X = 0
    · have e1 : (X != 0) = false := by simp [hz]
      have hr := Lib.hid (show R = (L, 0, 0) by rw [HR'.out, if_pos hz])
      clear hz
      go_wp2_with fail
      go_ret3
      exact ⟨_, by rw [hr.out]; rfl, by rw [hr.out]; exact HP2.out, hb02⟩
    · have e1 : (X != 0) = true := by simp [hz]
      have hr := Lib.hid (show R = ([], 0, X) by rw [HR'.out, if_neg hz])
      clear hz
      go_wp2_with fail
      go_ret3
      exact ⟨.slice none 0 0, by rw [hr.out]; rfl, by rw [hr.out]; exact plays_nilT _ _, hb02⟩
end Go.Proofs.YtmjkbmkjnbpgeaaGreatDoor
