/- FindFault; a text of players changed at a place. -/
import Derived.Test.YtmjkbmkjnbpgeaaGreatDoorTxb
import Derived.Test.YtmjkbmkjnbpgeaaGreatDoorUtf
import Derived.Test.YtmjkbmkjnbpgeaaGreatDoorBb
namespace Go.Proofs.YtmjkbmkjnbpgeaaGreatDoor
open Go.RowKit

set_option maxRecDepth 100000 in
set_option maxHeartbeats 2000000 in
theorem findFault_calls (s : ByteArray) (w : World) (hs : s.size ≤ 1000) (hG : Glob w) :
    Calls Tryz.prog 60 #[.string s] w fun e w' => e = .returned (.int .i64 (unlessE (titleB s) 3)) ∧ Below w.heap.size w w' := by
  have hn := name_ok s (by omega)
  have HT := Lib.hid (title_eq hn)
  have C1 := Lib.hid (qplain_calls s w (by omega) hG hn.2.1 hn.2.2)
  have C2 := Lib.hid (fun w' => in_calls (s.size : Int) 1 60 w')
  generalize plainQ s = p at HT C1
  generalize betwB (s.size : Int) 1 60 = q at HT C2
  generalize titleB s = T at HT ⊢
  clear hn hG
  cases p
  · go_enter Tryz.func60, Tryz.ntmps60
    go_wp2_with fail
    refine C1.out.mono ?_
    rintro e w' ⟨rfl, hb⟩
    go_wp2_with fail
    go_ret
    exact ⟨ret_int (by rw [HT.out]; rfl), hb⟩
  · go_enter Tryz.func60, Tryz.ntmps60
    go_wp2_with fail
    refine C1.out.mono ?_
    rintro e w' ⟨rfl, hb⟩
    go_wp2_with fail
    refine (C2.out _).mono ?_
    rintro e w' ⟨rfl, rfl⟩
    cases q
    · go_wp2_with fail
      go_ret
      exact ⟨ret_int (by rw [HT.out]; rfl), hb⟩
    · go_wp2_with fail
      go_ret
      exact ⟨ret_int (by rw [HT.out]; rfl), hb⟩
/-- A string of at most so many bytes. -/
def ShortS (n : Nat) (v : Value) : Prop := ∃ u, v = .string u ∧ u.size ≤ n
def C_chars : ByteArray := ⟨#[32, 10, 44, 45, 97, 100, 109]⟩
theorem enc_le (x : Int) : (Utf8.encode x).size ≤ 4 := by
  unfold Utf8.encode
  simp only
  generalize (if Utf8.valid x then x.toNat else Utf8.runeError) = c
  by_cases h1 : c < 0x80
  · rw [if_pos h1]; exact Nat.le_of_ble_eq_true rfl
  · rw [if_neg h1]
    by_cases h2 : c < 0x800
    · rw [if_pos h2]; exact Nat.le_of_ble_eq_true rfl
    · rw [if_neg h2]
      by_cases h3 : c < 0x10000
      · rw [if_pos h3]; exact Nat.le_of_ble_eq_true rfl
      · rw [if_neg h3]; exact Nat.le_of_ble_eq_true rfl
set_option maxRecDepth 100000 in
set_option maxHeartbeats 4000000 in
theorem changed_calls (B N : Nat) (s : ByteArray) (w : World) (hs : St w B N) (hN : N ≤ 3990000) (hsz : s.size ≤ 500) :
    Calls Tryz.prog 126 #[.pointer (some ⟨B, 0, none⟩), .string s, .string C_chars] w (Dr B (N + 3) (ShortS (s.size + 8)) w) := by
  by_cases h0 : s.size = 0
  · have he : s.toList.isEmpty = true := by rw [empty_of]; simp [h0]
    go_enter Tryz.func126, Tryz.ntmps126
    go_wp2_with fail
    go_ret
    exact ⟨_, ⟨C_chars, rfl, by show (7 : Nat) ≤ _; omega⟩, rfl, hs.mono (by omega), gb_refl _ _⟩
  · have he : s.toList.isEmpty = false := by rw [empty_of]; simp [h0]
    have he2 : C_chars.toList.isEmpty = false := by rw [empty_of]; rfl
    have hc7 : C_chars.size = 7 := rfl
    generalize C_chars = cs at he2 hc7 ⊢
    go_enter Tryz.func126, Tryz.ntmps126
    go_wp2_with fail
    refine (next_calls B N (s.size : Int) w hs (by omega) (by omega) (by omega)).mono ?_
    rintro e w1 ⟨v, ⟨r, rfl, hr⟩, rfl, hs1, hg1⟩
    go_wp2_with fail
    refine (next_calls B (N + 1) 7 w1 hs1 (by omega) (by omega) (by omega)).mono ?_
    rintro e w2 ⟨v, ⟨c, rfl, hc⟩, rfl, hs2, hg2⟩
    have hcb : c < cs.size := by omega
    go_wp2_with fail
    refine (next_calls B (N + 2) 3 w2 hs2 (by omega) (by omega) (by omega)).mono ?_
    rintro e w3 ⟨v, ⟨d, rfl, hd⟩, rfl, hs3, hg3⟩
    have hg := gb_trans hg1 (gb_trans hg2 hg3)
    have Hs3 := Lib.hid hs3
    have Hg := Lib.hid hg
    have hx0 : 0 ≤ (cs[c].toNat : Int) := by omega
    have hrs : r < s.size := by omega
    have hrs2 : r ≤ s.size := by omega
    have hrs3 : r + 1 ≤ s.size := by omega
    have x1 : IntKind.i64.wrap ((r : Int) + 1) = ((r + 1 : Nat) : Int) := by rw [IntWalk.i64_in _ (by omega)]; omega
    have hz8 : cs[c].toNat < 256 := UInt8.toNat_lt _
    generalize cs[c].toNat = z at hx0 hz8
    have x2 : IntKind.i32.wrap (z : Int) = (z : Int) := IntWalk.i32_in _ (by omega)
    have henc := enc_le (z : Int)
    have hsl : s.size ≤ 9223372036854775807 := by omega
    clear hs1 hs2 hs3 hg1 hg2 hg3 hg hs h0 hcb hc hr
    have hcases : d = 0 ∨ d = 1 ∨ d = 2 := by omega
    clear hd
    rcases hcases with rfl | rfl | rfl
    · go_wp2_with fail
      go_region
      all_goals (go_wp2_with fail)
      all_goals go_ret
      all_goals exact ⟨_, ⟨_, rfl, by simp only [ByteArray.size_append, ByteArray.size_extract]; omega⟩, rfl, (Hs3.out.below (Below.refl _ _).drew).mono (by omega), gb_trans Hg.out (gb_drewN _ 1 _)⟩
    · go_wp2_with fail
      go_region
      all_goals (go_wp2_with fail)
      all_goals go_ret
      all_goals exact ⟨_, ⟨_, rfl, by simp only [ByteArray.size_append, ByteArray.size_extract]; omega⟩, rfl, (Hs3.out.below (Below.refl _ _).drew).mono (by omega), gb_trans Hg.out (gb_drewN _ 1 _)⟩
    · go_wp2_with fail
      go_region
      all_goals (go_wp2_with fail)
      all_goals go_ret
      all_goals exact ⟨_, ⟨_, rfl, by simp only [ByteArray.size_append, ByteArray.size_extract]; omega⟩, rfl, (Hs3.out.below (Below.refl _ _).drew).mono (by omega), gb_trans Hg.out (gb_drewN _ 1 _)⟩
theorem rows_take {w : World} {T lo sz g off n c m : Nat} {rows : List (List Value)} (h : Rows w T lo sz (.slice (some ⟨g, off, none⟩) n c) rows) (hn : n = rows.length) (hm : m ≤ n) : Rows w T lo sz (.slice (some ⟨g, off, none⟩) m c) (rows.take m) := by
  have hf := h.fits
  have e0 : (rows.take m).length = m := by simp; omega
  have hsm := h.small
  rcases h.shape with ⟨e, _⟩ | ⟨g', off', cap, cur, fr, e, h2, h3, h4⟩
  · cases e
  · simp only [Value.slice.injEq, Option.some.injEq, Addr.mk.injEq, and_true] at e
    obtain ⟨⟨rfl, rfl⟩, _, rfl⟩ := e
    refine ⟨by omega, fun r hr => h.each r (List.mem_of_mem_take hr), .inr ⟨g, off, c, cur, fr, by rw [e0], ⟨h2.1, by rw [e0]; omega⟩, h3, fun i j u hu => ?_⟩⟩
    refine h4 i j u ?_
    rw [List.getElem?_take] at hu
    split at hu
    · exact hu
    · simp at hu
theorem plays_take {w : World} {lo g off n c m : Nat} {ps : List PD} (h : Plays w lo (.slice (some ⟨g, off, none⟩) n c) ps) (hn : n = ps.length) (hm : m ≤ n) : Plays w lo (.slice (some ⟨g, off, none⟩) m c) (ps.take m) := by
  obtain ⟨pvs, hl, hr, hp⟩ := h
  refine ⟨pvs.take m, by simp; omega, ?_, fun i x p hx hq => ?_⟩
  · have := rows_take hr (by rw [show (List.zipWith _ ps pvs).length = ps.length from plRows_length hl]; exact hn) hm
    rw [List.take_zipWith] at this
    exact this
  · rw [List.getElem?_take] at hx hq
    split at hx
    · rw [if_pos (by assumption)] at hq
      exact hp i x p hx hq
    · cases hx
theorem bytesT_lenM {M : Nat} : ∀ {ps : List PD}, (∀ p ∈ ps, (lineS p).size ≤ M) → (bytesT ps).length ≤ ps.length * (M + 1)
  | [], _ => by simp [bytesT]
  | p :: ps, h => by
    have h1 := h p (by simp)
    have h2 := bytesT_lenM (M := M) (ps := ps) fun q hq => h q (by simp [hq])
    have e : bytesT (p :: ps) = ((lineS p).data.toList ++ [10]) ++ bytesT ps := by simp [bytesT]
    have e1 : (lineS p).data.toList.length = (lineS p).size := by rw [Array.length_toList]; rfl
    have e2 : ([10] : List UInt8).length = 1 := rfl
    have e3 : (p :: ps).length * (M + 1) = ps.length * (M + 1) + (M + 1) := by rw [List.length_cons, Nat.add_mul, Nat.one_mul]
    rw [e, List.length_append, List.length_append, e1, e2, e3]
    omega
theorem ownps_sh {w : World} {base : Nat} {v : Value} {ps : List PD} (h : OwnPs w base v ps) : ∃ a c, v = .slice a ps.length c := by
  obtain ⟨pvs, _, h2, _⟩ := h
  exact owns_shape h2
theorem good_small : (∀ k ∈ fiveKeys, k.size ≤ 10) ∧ (∀ k ∈ sixNames, k.size ≤ 40) ∧ ∀ k ∈ spotKeys, k.size ≤ 10 := by decide +kernel
theorem good_line {p : PD} (h : GoodP p) : SmallP p ∧ (lineS p).size ≤ 100 := by
  obtain ⟨h1, h2, h3, h4⟩ := h
  have k1 := good_small.1 _ h1
  have k2 := good_small.2.1 _ h2
  have k3 : ∀ k ∈ p.pos, k.size ≤ 10 := fun k hk => good_small.2.2 k (h4 k hk)
  refine ⟨⟨by omega, by omega, by omega, fun k hk => by have := k3 k hk; omega⟩, ?_⟩
  have hj := join_le [44] 10 (p.pos.map (·.data.toList)) fun x hx => by
    obtain ⟨k, hk, rfl⟩ := List.mem_map.1 hx
    have := k3 k hk
    have e : k.data.toList.length = k.size := by rw [Array.length_toList]; rfl
    omega
  rw [List.length_map] at hj
  have hm := Nat.mul_le_mul_right 11 h3
  have e10 : 10 + ([44] : List UInt8).length = 11 := rfl
  rw [e10] at hj
  have e : (joinS p.pos).size = (Lib.join (p.pos.map (·.data.toList)) [44]).length := by
    unfold joinS; show (List.toArray _).size = _; simp
  unfold lineS
  simp only [ByteArray.size_append]
  have e1 : (⟨#[32]⟩ : ByteArray).size = 1 := rfl
  omega
set_option maxRecDepth 100000 in
set_option maxHeartbeats 4000000 in
theorem playerText_calls (B N : Nat) (w : World) (hs : St w B N) (hN : N ≤ 3980000) :
    Calls Tryz.prog 57 #[.pointer (some ⟨B, 0, none⟩)] w (Dr B (N + 60) (ShortS 400) w) := by
  go_enter Tryz.func57, Tryz.ntmps57
  go_wp2_with fail
  refine (rightPlayers_calls B N w hs (by omega)).mono ?_
  rintro e w1 ⟨v, ⟨ps, hP, hpl, hgd⟩, rfl, hs1, hg1⟩
  have Hgd := Lib.hid hgd
  have hPl := hP.plays (by omega)
  obtain ⟨m, hm⟩ : ∃ m, m = min ps.length 3 := ⟨_, rfl⟩
  have hm3 : m ≤ 3 := by omega
  have hmn : m ≤ ps.length := by omega
  have hlen : (bytesT (ps.take m)).length ≤ 303 := by
    have h1 := bytesT_lenM (M := 100) (ps := ps.take m) fun p hp => (good_line (hgd p (List.mem_of_mem_take hp))).2
    have h2 : (ps.take m).length ≤ 3 := by simp; omega
    have h3 := Nat.mul_le_mul_right 101 h2
    have e : 100 + 1 = 101 := rfl
    rw [e] at h1
    omega
  obtain ⟨va, vc, rfl⟩ := ownps_sh hP
  have hPm : Plays w1 w.heap.size (.slice va m vc) (ps.take m) := by
    rcases plays_at hPl with ⟨e, rfl⟩ | ⟨g, off, cap, e, _⟩
    · have h0 : m = 0 := by simpa using hmn
      subst h0
      simpa using hPl
    · simp only [Value.slice.injEq, true_and] at e
      obtain ⟨rfl, rfl⟩ := e
      exact plays_take hPl rfl hmn
  have hvc : ps.length ≤ vc := by
    obtain ⟨pvs, hl, hr, _⟩ := hPl
    have := hr.fits
    exact this
  have C1 := Lib.hid (playerLines_calls _ _ (ps.take m) w1 hPm (fun p hp => (good_line (hgd p (List.mem_of_mem_take hp))).1) (by simp; omega))
  have hm' : min (ps.length : Int) 3 = (m : Int) := by omega
  have Hs1 := Lib.hid hs1
  have Hg1 := Lib.hid hg1
  have hmc : m ≤ vc := by omega
  have hmc' : (m : Int) ≤ (vc : Int) := by omega
  have hN1 : N + 40 + 1 ≤ 4000000 := by omega
  clear hs hs1 hg1 hgd hP hPl hPm hm
  go_wp2_with fail
  refine C1.out.mono ?_
  rintro e w2 ⟨rfl, hb2⟩
  have hg2 := gb_trans Hg1.out (gb_below hb2 (some B))
  have hs2 : St w2 B (N + 40) := Stm.below Hs1.out hb2
  have hsz0 : (textS (ps.take m)).size ≤ 303 := by
    have e : (textS (ps.take m)).size = (bytesT (ps.take m)).length := by unfold textS; show (List.toArray _).size = _; simp
    omega
  generalize textS (ps.take m) = t0 at hsz0 ⊢
  clear Hs1 Hg1 hb2 C1 hlen
  go_wp2_with fail
  refine (pick_calls B (N + 40) w2.heap.size _ [0, 0, 1, 2] _ (hs2.alloc _) (by omega) (ints_new w2 [0, 0, 1, 2] (by decide)) hs2.lt (by simp)).mono ?_
  rintro e w3 ⟨v, ⟨kd, rfl, hkd⟩, rfl, hs3, hg3⟩
  have hkd' : 0 ≤ kd ∧ kd ≤ 2 := by
    simp only [List.mem_cons, List.not_mem_nil, or_false] at hkd
    omega
  have hg03 := gb_trans hg2 (gb_trans (gb_alloc w2 (.cells ([0, 0, 1, 2].map (Value.int .i64)).toArray 3) (some B)) hg3)
  clear hkd hs2 hg2 hg3
  go_wp2_with fail
  go_loopw [4, 16] (fun t i wr => ∃ (j : Nat) (u : ByteArray), i = .int .i64 (j : Int) ∧ j ≤ 2 ∧ t = .string u ∧ u.size ≤ 303 + 8 * j ∧ St wr B (N + 41 + 3 * j) ∧ w.grownBy wr (some B)) (fun _ i _ => 2 - (intOf i).toNat)
  case atStart => exact ⟨0, t0, rfl, by omega, rfl, by omega, hs3.mono (by omega), hg03⟩
  case round =>
    obtain ⟨j, u, rfl, hj, rfl, hu, hsr, hgr⟩ := hrel
    clear hs3 hg03
    by_cases hlt : (j : Int) < kd
    · have hsr' := Lib.hid hsr
      have hgr' := Lib.hid hgr
      have C2 := Lib.hid (changed_calls B (N + 41 + 3 * j) u wr hsr (by omega) (by omega))
      have x1 : IntKind.i64.wrap ((j : Int) + 1) = ((j + 1 : Nat) : Int) := by rw [IntWalk.i64_in _ (by omega)]; omega
      clear hsr hgr
      go_wp2_with fail
      refine C2.out.mono ?_
      rintro e w4 ⟨v, ⟨u4, rfl, hu4⟩, rfl, hs4, hg4⟩
      go_wp2_with fail
      have x2 : (j : Int) + 1 = ((j + 1 : Nat) : Int) := by omega
      rw [x2]
      exact ⟨⟨j + 1, u4, rfl, by omega, rfl, by omega, hs4.mono (by omega), gb_trans hgr'.out hg4⟩, by show 2 - ((j + 1 : Nat) : Int).toNat < 2 - ((j : Nat) : Int).toNat; omega⟩
    · go_wp2_with fail
      go_ret
      exact ⟨_, ⟨u, rfl, by omega⟩, rfl, hsr.mono (by omega), hgr⟩
end Go.Proofs.YtmjkbmkjnbpgeaaGreatDoor
