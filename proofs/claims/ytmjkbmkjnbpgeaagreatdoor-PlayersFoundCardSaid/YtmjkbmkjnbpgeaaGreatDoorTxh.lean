/- The reference's small letters. -/
import Derived.Test.YtmjkbmkjnbpgeaaGreatDoorShelf
import Derived.Test.YtmjkbmkjnbpgeaaGreatDoorBa
import Derived.Lib.ConvBytes
import Derived.Laws.IdiomStrings
import Derived.Lib.Hide
import Derived.IntWalk
namespace Go.Proofs.YtmjkbmkjnbpgeaaGreatDoor
open Go.RowKit

/-- A byte, small if it is a letter A to Z. -/
def lowU (b : UInt8) : UInt8 := if 65 ≤ b.toNat ∧ b.toNat ≤ 90 then b + 32 else b
def lowR (s : ByteArray) : ByteArray := ⟨(s.data.toList.map lowU).toArray⟩
def byteOf (s : ByteArray) (j : Nat) : UInt8 := s.data.toList.getD j 0
theorem below_bytesWorld (w : World) (e : TypeId) (s : ByteArray) : Below w.heap.size w (Lib.bytesWorld w e s) :=
  ⟨rfl, rfl, rfl, by rw [Lib.bytesWorld_size]; omega, fun k hk => Lib.bytesWorld_at_old w e s k hk⟩
theorem bytesCells_size (w : World) (e : TypeId) (s : ByteArray) : s.size ≤ (Lib.bytesCells w e s).size := by
  unfold Lib.bytesCells
  rw [Array.size_append, Array.size_map]
  show s.data.size ≤ _
  omega
theorem bytesCells_get (w : World) (e : TypeId) (s : ByteArray) (j : Nat) (hj : j < s.size) : (Lib.bytesCells w e s)[j]? = some (.int .u8 ((byteOf s j).toNat : Int)) := by
  have hj' : j < s.data.size := hj
  unfold Lib.bytesCells byteOf
  rw [Array.getElem?_append_left (by simpa using hj')]
  simp [List.getD]
  exact ⟨s.data[j], Array.getElem?_eq_getElem hj', by rw [Array.getElem?_eq_getElem hj']; rfl⟩
theorem lowU_up {b : UInt8} (h1 : 65 ≤ b.toNat) (h2 : b.toNat ≤ 90) : (lowU b).toNat = b.toNat + 32 := by
  unfold lowU
  rw [if_pos ⟨h1, h2⟩, UInt8.toNat_add]
  have : (32 : UInt8).toNat = 32 := rfl
  rw [this]
  omega
theorem lowU_no {b : UInt8} (h : ¬ (65 ≤ b.toNat ∧ b.toNat ≤ 90)) : lowU b = b := by unfold lowU; rw [if_neg h]
set_option maxRecDepth 100000 in
set_option maxHeartbeats 4000000 in
theorem lower_calls (s : ByteArray) (w : World) (hs : s.size ≤ 1000) :
    Calls Tryz.prog 134 #[.string s] w fun e w' => e = .returned (.string (lowR s)) ∧ Below w.heap.size w w' := by
  have hg0 := Lib.bytesWorld_at_new w 5 s
  have hbW := below_bytesWorld w 5 s
  have hN := bytesCells_size w 5 s
  have hcs := Lib.hid (bytesCells_get w 5 s)
  have hrun := Lib.run_convert_string_bytes (P := Tryz.prog) w 9 181 5 s Tryz.underlying9 Tryz.underlying181 Tryz.underlying5
  obtain ⟨cap, hcap⟩ : ∃ cap, grownCap w s.size 0 5 = cap := ⟨_, rfl⟩
  rw [hcap] at hrun
  generalize Lib.bytesWorld w 5 s = W at hg0 hbW hrun
  generalize Lib.bytesCells w 5 s = C at hg0 hN hcs
  obtain ⟨N, hNN⟩ : ∃ N, C.size = N := ⟨_, rfl⟩
  rw [hNN] at hg0 hN
  clear hcap hNN
  go_enter Tryz.func134, Tryz.ntmps134
  go_wp2_with fail
  clear hrun
  go_loopw [10] (fun i wr => ∃ (k : Nat) (cur : Array Value), i = .int .i64 k ∧ k ≤ s.size ∧ wr.heap[w.heap.size]? = some (.cells cur 5 (N, N + 1)) ∧ Hid (∀ j, j < s.size → cur[j]? = some (.int .u8 ((if j < k then lowU (byteOf s j) else byteOf s j).toNat : Int))) ∧ Below w.heap.size w wr) (fun i _ => s.size - (intOf i).toNat)
  case atStart => exact ⟨0, C, rfl, Nat.zero_le _, hg0, Lib.hid fun j hj => by rw [if_neg (by omega)]; exact hcs.out j hj, hbW⟩
  case round =>
    obtain ⟨k, cur, rfl, hk, hh, Hc, hb⟩ := hrel
    clear hg0 hbW
    by_cases hlt : k < s.size
    · have hck := Hc.out k hlt
      rw [if_neg (by omega)] at hck
      have c0 : wr.cell? ⟨w.heap.size, k, none⟩ = some (.int .u8 ((byteOf s k).toNat : Int)) := by rw [cell_of_row wr _ _ _ _ _ hh]; exact hck
      have cf : wr.frozen? ⟨w.heap.size, k, none⟩ = false := by simp [World.frozen?, hh]; omega
      have hsame := Lib.hid (show ∀ hno : lowU (byteOf s k) = byteOf s k, Hid (∀ j, j < s.size → cur[j]? = some (.int .u8 ((if j < k + 1 then lowU (byteOf s j) else byteOf s j).toNat : Int))) from fun hno => Lib.hid fun j hj => by
        rw [Hc.out j hj]
        by_cases hjk : j < k
        · rw [if_pos hjk, if_pos (by omega)]
        · by_cases hjk2 : j = k
          · subst hjk2; rw [if_neg hjk, if_pos (by omega), hno]
          · rw [if_neg hjk, if_neg (by omega)])
      obtain ⟨c, hcc⟩ : ∃ c, byteOf s k = c := ⟨_, rfl⟩
      rw [hcc] at c0 hsame
      have Hcc := Lib.hid hcc
      have Hh := Lib.hid hh
      clear hck hcc hh
      by_cases h65 : 65 ≤ c.toNat
      · by_cases h90 : c.toNat ≤ 90
        · have Hup := Lib.hid (lowU_up h65 h90)
          have x1 : IntKind.u8.wrap ((c.toNat : Int) + 32) = ((c.toNat + 32 : Nat) : Int) := by rw [IntWalk.u8_in _ (by omega)]; omega
          clear hsame
          go_wp2_with fail
          go_roundw
          case rel =>
            refine ⟨k + 1, cur.setIfInBounds k (.int .u8 ((c.toNat + 32 : Nat) : Int)), by go_num, by omega, ?_, Lib.hid fun j hj => ?_, hb.setCell (p := ⟨w.heap.size, k, none⟩) (Nat.le_refl _) _⟩
            · have e : ((c.toNat : Int) + 32) = ((c.toNat + 32 : Nat) : Int) := by omega
              simp [World.setCell, Array.getElem?_modify, Hh.out]
            · have hcs := Hc.out k hlt
              have hksz : k < cur.size := by
                rcases Nat.lt_or_ge k cur.size with h | h
                · exact h
                · rw [Array.getElem?_eq_none h] at hcs; cases hcs
              by_cases hjk : j = k
              · subst hjk
                rw [Array.getElem?_setIfInBounds_self_of_lt hksz, if_pos (by omega), Hcc.out, Hup.out]
              · rw [Array.getElem?_setIfInBounds_ne (by omega), Hc.out j hj]
                by_cases hj2 : j < k
                · rw [if_pos hj2, if_pos (by omega)]
                · rw [if_neg hj2, if_neg (by omega)]
          case measure => simp [intOf]; omega
        · have Hs := hsame.out (lowU_no (by omega))
          clear hsame
          go_wp2_with fail
          go_roundw
          case rel => exact ⟨k + 1, cur, by go_num, by omega, Hh.out, Hs, hb⟩
          case measure => simp [intOf]; omega
      · have Hs := hsame.out (lowU_no (by omega))
        clear hsame
        go_wp2_with fail
        go_roundw
        case rel => exact ⟨k + 1, cur, by go_num, by omega, Hh.out, Hs, hb⟩
        case measure => simp [intOf]; omega
    · obtain rfl : k = s.size := by omega
      have e : s.data.toList.length = s.size := by rw [Array.length_toList]; rfl
      have hl : (s.data.toList.map lowU).length = s.size := by rw [List.length_map, e]
      have hback := run_convert_bytes_back (P := Tryz.prog) wr 181 9 5 ⟨w.heap.size, 0, none⟩ cap (s.data.toList.map lowU) Tryz.underlying181 Tryz.underlying5 Tryz.underlying9 (fun j hj => by
        rw [hl] at hj
        have hadd : (⟨w.heap.size, 0, none⟩ : Addr).add j = ⟨w.heap.size, j, none⟩ := by unfold Addr.add; split <;> simp_all
        rw [hadd, cell_of_row wr _ _ _ _ _ hh, Hc.out j hj, if_pos hj]
        simp [byteOf, List.getD, e, hj])
      rw [hl] at hback
      have HR := Lib.hid (show lowR s = ⟨(s.data.toList.map lowU).toArray⟩ from rfl)
      generalize (s.data.toList.map lowU).toArray = A at hback HR
      clear hh hl e
      go_wp2_with fail
      go_ret
      rw [HR.out]
      exact ⟨rfl, hb⟩
end Go.Proofs.YtmjkbmkjnbpgeaaGreatDoor
