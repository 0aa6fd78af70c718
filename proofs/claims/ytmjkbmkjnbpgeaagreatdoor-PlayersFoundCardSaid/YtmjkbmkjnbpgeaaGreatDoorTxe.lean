/- Players read from a text, line by line. -/
import Derived.Test.YtmjkbmkjnbpgeaaGreatDoorTxd
import Derived.Test.YtmjkbmkjnbpgeaaGreatDoorUtf
import Derived.Lib.CutLaws
import Derived.OwnWalk
namespace Go.Proofs.YtmjkbmkjnbpgeaaGreatDoor
open Go.RowKit

/-- A text's first line, what is behind it, and whether the line is ended. -/
def cutL (s : ByteArray) : ByteArray × ByteArray × Bool := (⟨(Lib.cut s.data.toList [10]).1.toArray⟩, ⟨(Lib.cut s.data.toList [10]).2.1.toArray⟩, (Lib.cut s.data.toList [10]).2.2)
theorem size_mk (l : List UInt8) : (⟨l.toArray⟩ : ByteArray).size = l.length := by show (List.toArray l).size = _; simp
theorem cutL_line (s : ByteArray) : (cutL s).1.size ≤ s.size := by
  unfold cutL
  rw [size_mk]
  have e : s.data.toList.length = s.size := by rw [Array.length_toList]; rfl
  unfold Lib.cut
  split
  · simp; omega
  · show s.data.toList.length ≤ s.size; omega
theorem cutL_rest {s : ByteArray} (h : (cutL s).2.2 = true) : (cutL s).2.1.size < s.size := by
  unfold cutL at h ⊢
  simp only at h ⊢
  rw [size_mk]
  have e : s.data.toList.length = s.size := by rw [Array.length_toList]; rfl
  unfold Lib.cut at h ⊢
  split
  · rename_i h'
    have := Lib.index_room s.data.toList [10] h'
    have e1 : ([10] : List UInt8).length = 1 := rfl
    rw [e1] at this
    show (s.data.toList.drop ((Lib.index s.data.toList [10]).toNat + ([10] : List UInt8).length)).length < s.size
    rw [List.length_drop, e1]
    omega
  · rename_i h'
    rw [if_neg h'] at h
    cases h
theorem cutM_calls (s : ByteArray) (w : World) (hs : s.size ≤ 1000000) (hG : Glob w) :
    Calls Tryz.prog 193 #[.string s, .string ⟨#[10]⟩] w fun e w' => e = .returned (.tuple #[.string (cutL s).1, .string (cutL s).2.1, .bool (cutL s).2.2]) ∧ Below w.heap.size w w' := by
  obtain ⟨m, hm⟩ := hG.2
  refine (Tryz.strings_Cut s ⟨#[10]⟩ m w (by omega) hm).mono ?_
  rintro e w' ⟨rfl, n, rfl⟩
  exact ⟨rfl, have h := Below.refl w.heap.size w; ⟨h.os, h.tape, h.output, h.size, h.block⟩⟩
/-- Lines taken one by one: the players, the number of the line reached, and whether all were right. -/
def readGo : Nat → ByteArray → List PD → Nat → List PD × Nat × Bool
  | 0, _, L, n => (L, n, true)
  | f + 1, s, L, n => if s.toList.isEmpty then (L, n, true) else if (cutL s).2.2 && parseB (cutL s).1 then readGo f (cutL s).2.1 (L ++ [lineP (cutL s).1]) (n + 1) else ([], n, false)
theorem empty_size {s : ByteArray} (h : s.toList.isEmpty = false) : 0 < s.size := by
  rw [empty_of] at h
  have := of_decide_eq_false h
  omega
theorem readGo_end {f : Nat} {s : ByteArray} {L : List PD} {n : Nat} (h : s.toList.isEmpty = true) : readGo f s L n = (L, n, true) := by
  cases f with
  | zero => rfl
  | succ f => unfold readGo; rw [if_pos h]
theorem readGo_bad {f : Nat} {s : ByteArray} {L : List PD} {n : Nat} (hf : s.size ≤ f) (h : s.toList.isEmpty = false) (hb : ((cutL s).2.2 && parseB (cutL s).1) = false) : readGo f s L n = ([], n, false) := by
  have := empty_size h
  cases f with
  | zero => omega
  | succ f => unfold readGo; rw [h, hb]; rfl
theorem readGo_ok {f : Nat} {s : ByteArray} {L : List PD} {n : Nat} (hf : s.size ≤ f) (h : s.toList.isEmpty = false) (hb : ((cutL s).2.2 && parseB (cutL s).1) = true) : ∃ f', readGo f s L n = readGo f' (cutL s).2.1 (L ++ [lineP (cutL s).1]) (n + 1) ∧ (cutL s).2.1.size ≤ f' := by
  have := empty_size h
  cases f with
  | zero => omega
  | succ f =>
    refine ⟨f, by rw [readGo, h, hb]; rfl, ?_⟩
    rw [Bool.and_eq_true] at hb
    have := cutL_rest hb.1
    omega
/-- What Read answers: players, a line's number, an error. -/
def readR (u : ByteArray) : List PD × Int × Int :=
  let r := readGo u.size u [] 0
  if r.2.2 then (if chkPs r.1 = 0 then (r.1, 0, 0) else ([], 0, chkPs r.1)) else ([], (r.2.1 : Int), 9)
def strLen : Value → Nat
  | .string s => s.size
  | _ => 0
theorem plays_nilT (w : World) (lo : Nat) : Plays w lo (.slice none 0 0) [] := OwnPs.plays (ps := []) ⟨[], rfl, World.ownsRow_nil _ _ _ _, by simp⟩ (by simp)
theorem parse_line {s : ByteArray} (h : parseB s = true) : parseP s = lineP s := by unfold parseP; rw [h]; rfl
set_option maxRecDepth 100000 in
set_option maxHeartbeats 8000000 in
theorem readLines_calls (u : ByteArray) (w : World) (hu : u.size ≤ 900) (hG : Glob w) :
    Calls Tryz.prog 138 #[.string u, .func (.func 139) #[] #[], .func (.func 22) #[] #[]] w fun e w' =>
      ∃ v, e = .returned (.tuple #[v, .int .i64 (readR u).2.1, .int .i64 (readR u).2.2]) ∧ Plays w' w.heap.size v (readR u).1 ∧ Below w.heap.size w w' := by
  obtain ⟨j0, hj, hy0, hy1, hy2⟩ := info_parts info_pl
  have HR := Lib.hid (show readR u = if (readGo u.size u [] 0).2.2 then (if chkPs (readGo u.size u [] 0).1 = 0 then ((readGo u.size u [] 0).1, 0, 0) else ([], 0, chkPs (readGo u.size u [] 0).1)) else ([], ((readGo u.size u [] 0).2.1 : Int), 9) from rfl)
  have d0 : decide ((200000 : Int) < (u.size : Int)) = false := decide_eq_false (by omega)
  obtain ⟨T, hT⟩ : ∃ T, readGo u.size u [] 0 = T := ⟨_, rfl⟩
  rw [hT] at HR
  have HT := Lib.hid hT
  have HG := Lib.hid hG
  generalize readR u = R at HR ⊢
  clear hT hG
  go_enter Tryz.func138, Tryz.ntmps138
  go_wp2_with fail
  clear d0
  go_loopw [0, 9, 10] (fun t v i wr => ∃ (f : Nat) (s : ByteArray) (L : List PD) (n : Nat), t = .string s ∧ i = .int .i64 n ∧ Hid (readGo f s L n = T) ∧ s.size ≤ f ∧ s.size ≤ 900 ∧ L.length + s.size ≤ 900 ∧ n + s.size ≤ 900 ∧ Hid (OwnPs wr w.heap.size v L) ∧ Hid (∀ p ∈ L, SmallP p) ∧ Below w.heap.size w wr) (fun t _ _ _ => strLen t)
  case atStart => exact ⟨u.size, u, [], 0, rfl, rfl, HT, Nat.le_refl _, hu, by simpa using hu, by simpa using hu, Lib.hid ⟨[], rfl, World.ownsRow_nil _ _ _ _, by simp⟩, Lib.hid (by simp), Below.refl _ _⟩
  case round =>
    obtain ⟨f, s, L, n, rfl, rfl, Hgo, hf, hs, hL, hn, HP, HSm, hb⟩ := hrel
    cases he : s.toList.isEmpty
    · have hpos := empty_size he
      have C1 := Lib.hid (cutM_calls s wr (by omega) (HG.out.below hb))
      have hl := cutL_line s
      have Hbad := Lib.hid (fun h => readGo_bad (L := L) (n := n) hf he h)
      have Hok := Lib.hid (fun h => readGo_ok (L := L) (n := n) hf he h)
      have Hrest := Lib.hid (fun h => cutL_rest (s := s) h)
      generalize (cutL s).1 = ln at C1 hl Hbad Hok
      generalize (cutL s).2.1 = rs at C1 Hok Hrest
      generalize (cutL s).2.2 = en at C1 Hbad Hok Hrest
      have hsz := hb.size
      go_wp2_with fail
      refine C1.out.mono ?_
      rintro e w1 ⟨rfl, hb1⟩
      have hb01 := below_step hb hb1
      have hs1 := hb1.size
      have HP1 := Lib.hid (HP.out.below hb1)
      have C2 := Lib.hid (parse_calls ln w1 (by omega) (HG.out.below hb01))
      clear C1 hb1 HP
      go_wp2_with fail
      refine C2.out.mono ?_
      rintro e w2 ⟨x, rfl, hx, hb2⟩
      obtain ⟨xa, xc, rfl⟩ := strs_shape' hx
      have hb02 := below_step hb01 hb2
      have hs2 := hb2.size
      have HP2 := Lib.hid (HP1.out.below hb2)
      have Hx := Lib.hid hx
      clear C2 hb2 HP1 hb01 hx
      cases en
      · have hr := Lib.hid (show R = ([], (n : Int), 9) by
          have h1 := Hbad.out (by rfl)
          rw [HR.out, ← Hgo.out, h1]; rfl)
        clear Hbad Hok Hrest HR
        go_wp2_with fail
        go_ret3
        refine ⟨.slice none 0 0, by rw [hr.out]; rfl, by rw [hr.out]; exact plays_nilT _ _, ?_⟩
        exact below_step hb02 (below_alloc w2 _)
      · cases hp : parseB ln
        · have hr := Lib.hid (show R = ([], (n : Int), 9) by
            have h1 := Hbad.out (by rw [hp]; rfl)
            rw [HR.out, ← Hgo.out, h1]; rfl)
          clear Hbad Hok Hrest HR
          go_wp2_with fail
          go_ret3
          refine ⟨.slice none 0 0, by rw [hr.out]; rfl, by rw [hr.out]; exact plays_nilT _ _, ?_⟩
          exact below_step hb02 (below_alloc w2 _)
        · obtain ⟨f', hgo, hf'⟩ := Hok.out (by rw [hp]; rfl)
          have hrs := Hrest.out rfl
          have hpl : parseP ln = lineP ln := parse_line hp
          have hsm := lineP_small ln (by omega)
          rw [hpl] at Hx ⊢
          have Hgo' := Lib.hid (hgo.symm.trans Hgo.out)
          obtain ⟨pvs, hpv, hrow, hposs⟩ := HP2.out
          generalize lineP ln = p at Hx Hgo' hsm ⊢
          have HSm' := Lib.hid (show ∀ q ∈ L ++ [p], SmallP q from fun q hq => by
            rcases List.mem_append.1 hq with h | h
            · exact HSm.out q h
            · rw [List.mem_singleton.1 h]; exact hsm)
          have hpos' : ∀ (i : Nat) (x : Value) (p' : PD), (pvs ++ [Value.slice xa p.pos.length xc])[i]? = some x → (L ++ [p])[i]? = some p' → Strs w2 w.heap.size x p'.pos := by
            intro i x p' hx hp
            by_cases hi : i < L.length
            · rw [List.getElem?_append_left (by omega)] at hx
              rw [List.getElem?_append_left hi] at hp
              exact hposs i x p' hx hp
            · have hi2 : i = L.length := by have := (List.getElem?_eq_some_iff.1 hp).1; simp at this; omega
              subst hi2
              rw [List.getElem?_append_right (by omega), hpv] at hx
              rw [List.getElem?_append_right (by omega)] at hp
              simp at hx hp
              subst hx hp
              exact Hx.out.mono (by omega)
          have Hpos := Lib.hid hpos'
          obtain ⟨W3, hW3⟩ : ∃ W3, W3 = w2.alloc (.cells #[.string p.key, .string p.name, .slice xa p.pos.length xc] 86) := ⟨_, rfl⟩
          obtain ⟨X, hX⟩ : ∃ X, X = w2.heap.size := ⟨_, rfl⟩
          have hb3 : Below w2.heap.size w2 W3 := by rw [hW3]; exact below_alloc w2 _
          have x0 : W3.cell? ⟨X, 0, none⟩ = some (.string p.key) := by rw [hW3, hX, World.cell?_alloc_at _ _ _ _ rfl]; rfl
          have x1 : W3.cell? ⟨X, 1, none⟩ = some (.string p.name) := by rw [hW3, hX, World.cell?_alloc_at _ _ _ _ rfl]; rfl
          have x2 : W3.cell? ⟨X, 2, none⟩ = some (.slice xa p.pos.length xc) := by rw [hW3, hX, World.cell?_alloc_at _ _ _ _ rfl]; rfl
          have hrow3 : W3.ownsRow w.heap.size 86 3 u9 L.length (plRows L pvs).flatten := by rw [hW3]; exact World.ownsRow.alloc hrow _
          have hb03 := below_step hb02 hb3
          have hs3 := hb3.size
          have HX := Lib.hid hX
          have HW3 := Lib.hid hW3
          have Hb3 := Lib.hid hb3
          clear Hbad Hok Hrest hgo hposs hpos' hpl hsm HP2 HSm Hgo Hx HR hW3 hX hrow hb3 hb02
          go_upto_region 9 with fail
          rw [← HW3.out, ← HX.out]
          clear HW3 HX
          go_wp2_with (at_builtin; refine wpList_append_own _ rfl _ _ 26 rfl w.heap.size 86 j0 (.agg #[.string ⟨#[]⟩, .string ⟨#[]⟩, .slice none 0 0]) 3 56 Tryz.underlying26 hj hy0 hy1 hy2 rfl (by decide) _ _ _ rfl (hrow3.alloc _) ⟨W3.heap.size, 0, none⟩ 1 1 [.string p.key, .string p.name, .slice xa p.pos.length xc] rfl rfl ?c1 ?c2 ?c3 ?c4 ?c5 ?_)
          case c1 => exact cell_three_new _ _ _ _ _
          case c2 => simp [Value.oneCell']
          case c3 => unfold maxLen; omega
          case c4 => omega
          case c5 => simp; omega
          intro v' w7 hown7 hgrow _
          have hB7 : Below w.heap.size w w7 := (hb03.trans ((below_alloc W3 (.cells #[.string p.key, .string p.name, .slice xa p.pos.length xc] 86)).mono (by omega))).grown hgrow (by simp; omega) fun r hr => (own_block hrow3 r hr).1
          have hO7 : Hid (OwnPs w7 w.heap.size v' (L ++ [p])) := Lib.hid ⟨pvs ++ [Value.slice xa p.pos.length xc], by simp [hpv], by rw [plRows_snoc hpv]; simpa using hown7, fun i x p hx hp => (((Hpos.out i x p hx hp).below Hb3.out).below (below_alloc W3 _)).row hgrow fun r hr => by
            obtain ⟨_, cur, h⟩ := own_block (hrow3.alloc _) r hr
            exact ⟨cur, _, _, h, by decide⟩⟩
          clear hown7 hgrow hrow3 Hpos x0 x1 x2 hb03
          go_wp2_with fail
          go_roundw
          case rel => exact ⟨f', rs, L ++ [p], n + 1, rfl, by go_num, Hgo', hf', by omega, by simp; omega, by omega, hO7, HSm', hB7⟩
          case measure => simp [strLen]; omega
    · have hr := Lib.hid (show T = (L, n, true) by rw [← Hgo.out]; exact readGo_end he)
      have hPl := HP.out.plays (by omega)
      have HPl := Lib.hid hPl
      obtain ⟨va, vc, rfl⟩ := plays_shape hPl
      have C1 := Lib.hid (checkPlayers_calls w.heap.size _ L wr hPl HSm.out (by omega) (HG.out.below hb))
      have HR' := Lib.hid (show R = if chkPs L = 0 then (L, 0, 0) else ([], 0, chkPs L) by rw [HR.out, hr.out]; rfl)
      generalize chkPs L = X at C1 HR'
      clear hPl HR hr Hgo HP
      go_wp2_with fail
      refine C1.out.mono ?_
      rintro e w1 ⟨rfl, hb1⟩
      have HP1 := Lib.hid (HPl.out.below hb1)
      have hb01 := below_step hb hb1
      by_cases hz : X = 0
      · have e1 : (X != 0) = false := by simp [hz]
        have HR2 := Lib.hid (show R = (L, 0, 0) by rw [HR'.out, if_pos hz])
        clear hz C1 hb1
        go_wp2_with fail
        go_ret3
        exact ⟨_, by rw [HR2.out]; rfl, by rw [HR2.out]; exact HP1.out, hb01⟩
      · have e1 : (X != 0) = true := by simp [hz]
        have HR2 := Lib.hid (show R = ([], 0, X) by rw [HR'.out, if_neg hz])
        clear hz C1 hb1
        go_wp2_with fail
        go_ret3
        exact ⟨.slice none 0 0, by rw [HR2.out]; rfl, by rw [HR2.out]; exact plays_nilT _ _, hb01⟩
end Go.Proofs.YtmjkbmkjnbpgeaaGreatDoor
