/- The reference's Key by strings.Trim, and what is in a range. -/
import Derived.Test.YtddnnjblpgfjeaaGreatDoorMgal
import Derived.Test.YtddnnjblpgfjeaaGreatDoorMgan
import Derived.Lib.SlTrimSet
namespace Go.Proofs.YtddnnjblpgfjeaaGreatDoor
open Go.RowKit

theorem dropWhile_nil {α : Type} (p : α → Bool) : ∀ l : List α, l.dropWhile p = [] ↔ ∀ b ∈ l, p b = true
 | [] => by simp
 | a :: l => by
  rw [List.dropWhile_cons]; by_cases h : p a = true
  ·rw [if_pos h, dropWhile_nil p l]; simp [h]
  ·rw [if_neg h]; simp [h]
theorem trimS_nil (l cs : List UInt8) : Lib.trimS l cs = [] ↔ ∀ b ∈ l, cs.contains b = true := by
 unfold Lib.trimS Lib.trimLeftS Lib.trimRightS
 rw [dropWhile_nil]
 constructor
 ·intro h
  by_cases hn : l.reverse.dropWhile (cs.contains ·) = []
  ·intro b hb
   exact (dropWhile_nil _ _).1 hn b (by simpa using hb)
  ·exfalso
   have hx : ∀ b ∈ l.reverse.dropWhile (cs.contains ·), cs.contains b = true := fun b hb => h b (by simpa using hb)
   obtain ⟨a, t, e⟩ := List.exists_cons_of_ne_nil hn; have h1 : cs.contains a = true := hx a (by rw [e]; simp)
   have h2 : cs.contains a = false := by
    have := List.head?_dropWhile_not (cs.contains ·) l.reverse
    rw [e] at this
    simpa using this
   rw [h1] at h2; cases h2
 ·intro h b hb
  refine h b ?_; have h2 := (List.dropWhile_sublist (cs.contains ·) (l := l.reverse)).mem (List.mem_reverse.1 hb)
  simpa using h2
theorem keyS_contains (x : UInt8) : keyS.data.toList.contains x = okC (x.toNat : Int) := by
 have h : ∀ x : Fin 256, keyS.data.toList.contains (UInt8.ofNat x.val) = okC (x.val : Int) := by decide +kernel
 have := h ⟨x.toNat, x.toNat_lt⟩
 simpa using this
theorem trim_key (s : ByteArray) : (Lib.trimS s.data.toList keyS.data.toList = []) ↔ ((List.range s.size).all fun i => okC (byteAt s i)) = true := by
 rw [trimS_nil, List.all_eq_true]
 constructor
 ·intro h i hi
  have hi' := List.mem_range.1 hi
  rw [byteAt, dif_pos hi', ← keyS_contains]; exact h _ (by rw [Array.mem_toList_iff]; exact Array.getElem_mem hi')
 ·intro h b hb
  obtain ⟨i, hi, rfl⟩ := List.getElem_of_mem hb; have hi' : i < s.size := by simpa using hi
  have := h i (List.mem_range.2 hi')
  rw [byteAt, dif_pos hi', ← keyS_contains] at this
  exact this
set_option maxRecDepth 100000 in
set_option maxHeartbeats 400000 in
theorem inQ_calls (n low high : Int) (w : World) :
  Calls Tryz.prog 59 #[.int .i64 n, .int .i64 low, .int .i64 high] w fun e w' => e = .returned (.bool (betwB n low high)) ∧ w = w' := by
 by_cases h1 : low ≤ n
 ·by_cases h2 : n ≤ high
  ·go_enter Tryz.func59, Tryz.ntmps59
   go_wp2
   go_ret
   exact ⟨ret_bool (by simp [betwB, h1, h2]), rfl⟩
  ·go_enter Tryz.func59, Tryz.ntmps59
   go_wp2
   go_ret
   exact ⟨ret_bool (by simp [betwB, h1, h2]), rfl⟩
 ·go_enter Tryz.func59, Tryz.ntmps59
  go_wp2
  go_ret
  exact ⟨ret_bool (by simp [betwB]; omega), rfl⟩
set_option maxRecDepth 100000 in
set_option maxHeartbeats 1000000 in
theorem keyQ_calls (s : ByteArray) (w : World) (hsz : s.size ≤ 1000000) :
  Calls Tryz.prog 87 #[.string s] w (BoolIs (keyB s) w) := by
 by_cases h1 : betwB (s.size : Int) 1 40 = true
 ·have hr : 1 ≤ s.size ∧ s.size ≤ 40 := by unfold betwB at h1; simp at h1; omega
  have H1 := Lib.hid h1; have HT := Lib.hid (Tryz.strings_Trim_set s keyS w (by omega) (by decide) (ascii_of_all (by decide)))
  have HK := Lib.hid (show keyB s = (smallB (byteAt s 0) && (List.range s.size).all fun i => okC (byteAt s i)) by
   rw [keyB, decide_eq_true hr.1, decide_eq_true hr.2]; rfl)
  have hpos : 0 < s.size := by omega
  have he := trim_key s; have hq : ((⟨(Lib.trimS s.data.toList keyS.data.toList).toArray⟩ : ByteArray)).size = (Lib.trimS s.data.toList keyS.data.toList).length := by show (List.toArray _).size = _; simp
  generalize hT : (⟨(Lib.trimS s.data.toList keyS.data.toList).toArray⟩ : ByteArray) = T at HT hq
  cases ha : (List.range s.size).all fun i => okC (byteAt s i)
  ·have ht : T.toList.isEmpty = false := by
    rw [empty_of, hq]; refine decide_eq_false fun e => ?_
    rw [he.1 (List.eq_nil_of_length_eq_zero e)] at ha; cases ha
   have HR := Lib.hid (show keyB s = false by rw [HK.out, ha, Bool.and_false])
   clear h1 hr ha he hq hT HK; go_enter Tryz.func87, Tryz.ntmps87; go_wp2_with fail
   refine (inQ_calls _ _ _ _).mono ?_; rintro e w' ⟨rfl, rfl⟩; rw [H1.out]; go_wp2_with fail
   refine HT.out.mono ?_; rintro e w' ⟨rfl, hb⟩; go_wp2_with fail
   go_ret
   exact ⟨ret_bool HR.out.symm, hb⟩
  ·have ht : T.toList.isEmpty = true := by
    rw [empty_of, hq]; exact decide_eq_true (by rw [he.2 ha]; rfl)
   have HR := Lib.hid (show keyB s = inB lettersS (s[0].toNat : Int) by rw [HK.out, ha, Bool.and_true, byteAt, dif_pos hpos, inB_letters])
   clear h1 hr ha he hq hT HK; by_cases hin : inB lettersS (s[0].toNat : Int) = true
   ·have e1 : 0 ≤ Lib.indexByte lettersS.data.toList s[0] := by unfold inB at hin; simpa using hin
    have Hin := Lib.hid hin; clear hin; go_enter Tryz.func87, Tryz.ntmps87; go_wp2_with fail
    refine (inQ_calls _ _ _ _).mono ?_; rintro e w' ⟨rfl, rfl⟩; rw [H1.out]; go_wp2_with fail
    refine HT.out.mono ?_; rintro e w' ⟨rfl, hb⟩; go_wp2_with fail
    refine (Tryz.strings_IndexByte _ _ _).mono ?_; rintro e w2 ⟨rfl, h⟩; subst h; go_wp2_with fail
    go_ret
    exact ⟨ret_bool (by rw [HR.out, Hin.out]; exact decide_eq_true e1), hb⟩
   ·have e1 : Lib.indexByte lettersS.data.toList s[0] < 0 := by unfold inB at hin; simpa using hin
    have Hin := Lib.hid (show inB lettersS (s[0].toNat : Int) = false by simpa using hin)
    clear hin; go_enter Tryz.func87, Tryz.ntmps87; go_wp2_with fail
    refine (inQ_calls _ _ _ _).mono ?_; rintro e w' ⟨rfl, rfl⟩; rw [H1.out]; go_wp2_with fail
    refine HT.out.mono ?_; rintro e w' ⟨rfl, hb⟩; go_wp2_with fail
    refine (Tryz.strings_IndexByte _ _ _).mono ?_; rintro e w2 ⟨rfl, h⟩; subst h; go_wp2_with fail
    go_ret
    exact ⟨ret_bool (by rw [HR.out, Hin.out]; exact decide_eq_false (Int.not_le.2 e1)), hb⟩
 ·have H1 := Lib.hid (show betwB (s.size : Int) 1 40 = false by simpa using h1)
  have HR := Lib.hid (show keyB s = false by
   have := H1.out
   unfold betwB at this
   unfold keyB
   have h2 : (decide (1 ≤ s.size) && decide (s.size ≤ 40)) = false := by
    rw [← this]; congr 1 <;> (apply decide_eq_decide.2; omega)
   rw [h2]; rfl)
  clear h1; go_enter Tryz.func87, Tryz.ntmps87; go_wp2_with fail
  refine (inQ_calls _ _ _ _).mono ?_; rintro e w' ⟨rfl, rfl⟩; rw [H1.out]; go_wp2_with fail
  go_ret
  exact ⟨ret_bool HR.out.symm, Below.refl _ _⟩
end Go.Proofs.YtddnnjblpgfjeaaGreatDoor
