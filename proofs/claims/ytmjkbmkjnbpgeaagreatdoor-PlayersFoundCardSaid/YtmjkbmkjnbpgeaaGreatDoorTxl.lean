/- PlayersFound: plain facts on what the law draws. -/
import Derived.Test.YtmjkbmkjnbpgeaaGreatDoorTxk
import Derived.Test.YtmjkbmkjnbpgeaaGreatDoorTxj
import Derived.Test.YtmjkbmkjnbpgeaaGreatDoorTxf
import Derived.Test.YtmjkbmkjnbpgeaaGreatDoorLaw3
namespace Go.Proofs.YtmjkbmkjnbpgeaaGreatDoor
open Go.RowKit

def queries : List ByteArray := [⟨#[109, 97]⟩, ⟨#[109, 32, 109]⟩, ⟨#[109, 97, 32, 109, 97]⟩, ⟨#[106, 111]⟩, ⟨#[77, 65, 82, 89, 32, 106, 111]⟩, ⟨#[97, 110, 32, 109, 97, 32, 109]⟩, ⟨#[122, 111]⟩, ⟨#[109]⟩, ⟨#[111, 39, 110]⟩, ⟨#[]⟩, ⟨#[32, 109]⟩, ⟨#[109, 32, 32, 109]⟩, ⟨#[120, 9, 121]⟩, ⟨#[109, 97, 32, 109, 32, 109, 97]⟩]
theorem queries_ok : ∀ q ∈ queries, WordsOk q ∧ q.size ≤ 900 ∧ (wordsR q).length ≤ 12 := by decide +kernel
theorem queries_fit : ∀ q ∈ queries, titleB q = true → ∀ nm ∈ namesAll, fitsB (wordsL q) (wordsL nm) = foundB q nm := by decide +kernel
theorem names_900 : ∀ s ∈ namesAll, s.size ≤ 900 := by decide +kernel
theorem findE_title {ps : List PD} {q : ByteArray} (h : findE ps q = 0) : titleB q = true := by
  unfold findE firstE at h
  split at h
  · unfold firstE firstE unlessE at h
    cases ht : titleB q
    · rw [ht] at h; simp at h
    · rfl
  · exact absurd h (by assumption)
theorem thoseL_congrM {f g : PD → Bool} {ps : List PD} (h : ∀ p ∈ ps, f p = g p) : thoseL f ps = thoseL g ps := by
  unfold thoseL
  rw [List.filter_congr h]
theorem findR_eq {ps : List PD} {q : ByteArray} (hA : ∀ p ∈ ps, AnyP p) (hq : q ∈ queries) (h : findE ps q = 0) : findR ps q = thoseL (fun p => foundB q p.name) ps := by
  unfold findR
  rw [if_pos h]
  exact thoseL_congrM fun p hp => queries_fit q hq (findE_title h) p.name (hA p hp).2.1
theorem findR_ne {ps : List PD} {q : ByteArray} (h : findE ps q ≠ 0) : findR ps q = [] := by
  unfold findR
  rw [if_neg h]
theorem findR_le (ps : List PD) (q : ByteArray) : (findR ps q).length ≤ ps.length := by
  unfold findR
  split
  · exact thoseL_le _ _
  · exact Nat.zero_le _
theorem line_le {p : PD} (h : SmallP p) (h5 : p.pos.length ≤ 5) : (lineS p).size ≤ 9000 := by
  obtain ⟨k1, k2, _, k3⟩ := h
  have hj := join_le [44] 1000 (p.pos.map (·.data.toList)) fun x hx => by
    obtain ⟨k, hk, rfl⟩ := List.mem_map.1 hx
    have := k3 k hk
    have e : k.data.toList.length = k.size := by rw [Array.length_toList]; rfl
    omega
  rw [List.length_map] at hj
  have hm := Nat.mul_le_mul_right 1001 h5
  have e10 : 1000 + ([44] : List UInt8).length = 1001 := rfl
  rw [e10] at hj
  have e : (joinS p.pos).size = (Lib.join (p.pos.map (·.data.toList)) [44]).length := by
    unfold joinS; show (List.toArray _).size = _; simp
  unfold lineS
  simp only [ByteArray.size_append]
  have e1 : (⟨#[32]⟩ : ByteArray).size = 1 := rfl
  omega
theorem bytes_le {ps : List PD} (hl : ps.length ≤ 5) (h : ∀ p ∈ ps, SmallP p ∧ p.pos.length ≤ 5) : (bytesT ps).length ≤ 200000 := by
  have h1 := bytesT_lenM (M := 9000) (ps := ps) fun p hp => line_le (h p hp).1 (h p hp).2
  have h2 := Nat.mul_le_mul_right (9000 + 1) hl
  omega
theorem textE_eq {ps : List PD} (hl : ps.length ≤ 5) (h : ∀ p ∈ ps, SmallP p ∧ p.pos.length ≤ 5) : textE ps = chkPs ps := by
  have := bytes_le hl h
  unfold textE writeR
  split
  · rename_i h0
    rw [if_neg (by omega), h0]
  · rfl
theorem textR_eq {ps : List PD} (hl : ps.length ≤ 5) (h : ∀ p ∈ ps, SmallP p ∧ p.pos.length ≤ 5) (h0 : chkPs ps = 0) : textR ps = textS ps := by
  have := bytes_le hl h
  unfold textR writeR
  rw [if_pos h0, if_neg (by omega)]
theorem textR_ne {ps : List PD} (h0 : chkPs ps ≠ 0) : textR ps = ⟨#[]⟩ := by
  unfold textR
  rw [if_neg h0]
end Go.Proofs.YtmjkbmkjnbpgeaaGreatDoor
