/- The mathematics of the laws on ZerosIn and DividedAt: noughts come by multiples. -/
import Derived.Test.YtennicmmjbfljaaPlaceSpec
import Derived.Test.YtennicmmjbfljaaSharedLaws
import Derived.Test.YtennicmmjbfljaaListMore
import Derived.Test.YtennicmmjbfljaaKept
namespace Go.Proofs.Ytennicmmjbfljaa
open Go.RowKit
theorem hold_at (B : Nat → Bool) (n i : Nat) (h : i < (holdL B n).length) : (holdL B n).getD i 0 < n ∧ B ((holdL B n).getD i 0) = true := by
  have hm : (holdL B n).getD i 0 ∈ holdL B n := by
    simp only [List.getD_eq_getElem?_getD, List.getElem?_eq_getElem h, Option.getD_some]
    exact List.getElem_mem h
  simpa [holdL] using hm
theorem hold_has {B : Nat → Bool} {n x : Nat} (hx : x < n) (hb : B x = true) : ∃ i, i < (holdL B n).length ∧ (holdL B n).getD i 0 = x := by
  have hm : x ∈ holdL B n := by simp [holdL, hx, hb]
  obtain ⟨i, hi, he⟩ := List.getElem_of_mem hm
  exact ⟨i, hi, by simp only [List.getD_eq_getElem?_getD, List.getElem?_eq_getElem hi, Option.getD_some]; exact he⟩
theorem hold_lt (B : Nat → Bool) (n i j : Nat) (hij : i < j) (h : j < (holdL B n).length) : (holdL B n).getD i 0 < (holdL B n).getD j 0 := by
  have hp : (holdL B n).Pairwise (· < ·) := List.Pairwise.filter _ List.pairwise_lt_range
  have := List.pairwise_iff_getElem.1 hp i j (by omega) h hij
  simpa only [List.getD_eq_getElem?_getD, List.getElem?_eq_getElem h, List.getElem?_eq_getElem (show i < (holdL B n).length by omega), Option.getD_some] using this
/-- What a list of places keeps: they are from 1 to 20 and ascend; multiples are told; of a pair that is apart all are multiples of the first one. -/
def PlacesOk (p q : Int) (L : List Nat) : Prop :=
  L.length ≤ 21 ∧ (∀ i, i < L.length → 1 ≤ L.getD i 0 ∧ L.getD i 0 ≤ 20) ∧ (∀ i, i + 1 < L.length → L.getD i 0 < L.getD (i + 1) 0) ∧
  (∀ i t, i < L.length → 1 ≤ t → t * L.getD i 0 ≤ 20 → ∃ j, j < L.length ∧ L.getD j 0 = t * L.getD i 0) ∧
  (apartB p q = true → ∀ i, i < L.length → L.getD i 0 % L.getD 0 0 = 0)
theorem placesOk_nil (p q : Int) : PlacesOk p q [] := ⟨by simp, fun i h => by simp at h, fun i h => by simp at h, fun i t h => by simp at h, fun _ i h => by simp at h⟩
theorem placesOk_div (p q d : Int) : PlacesOk p q (holdL (divB p q d) 21) := by
  have at_ := fun i h => hold_at (divB p q d) 21 i h
  have one : ∀ j, divB p q d j = true → 1 ≤ j ∧ d ∣ row p q 0 1 j := fun j h => by simpa [divB] using h
  refine ⟨holdL_len _ _, fun i h => ?_, fun i h => hold_lt _ _ _ _ (by omega) h, fun i t h ht hm => ?_, fun ha i h => ?_⟩
  · obtain ⟨h1, h2⟩ := at_ i h
    exact ⟨(one _ h2).1, by omega⟩
  · obtain ⟨h1, h2⟩ := at_ i h
    obtain ⟨h3, h4⟩ := one _ h2
    refine hold_has (by omega) ?_
    have h5 : 1 ≤ t * (holdL (divB p q d) 21).getD i 0 := Nat.mul_pos ht h3
    have h6 : d ∣ row p q 0 1 (t * (holdL (divB p q d) 21).getD i 0) := by rw [Nat.mul_comm]; exact Int.dvd_trans h4 (row_dvd p q _ t)
    simp only [divB, Bool.and_eq_true, decide_eq_true_iff]
    exact ⟨h5, h6⟩
  · obtain ⟨a1, a2⟩ := at_ 0 (by omega)
    obtain ⟨a3, a4⟩ := one _ a2
    obtain ⟨b1, b2⟩ := at_ i h
    obtain ⟨b3, b4⟩ := one _ b2
    have hap : Apart d q := by
      obtain ⟨r, hr⟩ : ∃ r, (holdL (divB p q d) 21).getD 0 0 = r + 1 := ⟨(holdL (divB p q d) 21).getD 0 0 - 1, by omega⟩
      rw [hr] at a4
      exact (row_apart (apartB_apart ha).2 r).of_dvd a4
    refine Nat.mod_eq_zero_of_dvd ((rank_dvd hap a3 a4 (fun s s1 s2 hd => ?_) _ _ (Nat.le_refl _)).1 b4)
    obtain ⟨j, hj, he⟩ := hold_has (B := divB p q d) (n := 21) (x := s) (by omega) (by simp [divB, s1, hd])
    by_cases h0 : j = 0
    · subst h0; omega
    · have := hold_lt (divB p q d) 21 0 j (by omega) hj
      omega
theorem zerosL_ok (p q : Int) : PlacesOk p q (zerosL p q) := by
  rw [zerosL]; split
  · exact placesOk_div p q 0
  · exact placesOk_nil p q
theorem dividedL_ok (p q m : Int) : PlacesOk p q (dividedL p q m) := by
  rw [dividedL]; split
  · exact placesOk_div p q m
  · exact placesOk_nil p q
end Go.Proofs.Ytennicmmjbfljaa
