/- Contracts that the statement's proof stands on. -/
import Derived.Test.YtodeifciedjfgaaAll2

namespace Go.Proofs.Ytodeifciedjfgaa
open Go.RowKit
/-- What a draw of a text returns. -/
def DrawnText (w : World) (e : Ending) (w' : World) : Prop := ∃ s : ByteArray, e = .returned (.string s) ∧ s.size ≤ 100 ∧ Below w.heap.size w w'
/-- One of five pieces of text. -/
def pieceS (v : Int) : ByteArray := if v = 0 then ⟨#[]⟩ else if v = 1 then ⟨#[48]⟩ else if v = 2 then ⟨#[49]⟩ else if v = 3 then ⟨#[49, 49]⟩ else ⟨#[50]⟩
theorem pieceS_size (v : Int) : (pieceS v).size ≤ 2 := by
  unfold pieceS
  repeat (first | decide | split)
theorem piece_get (v : Int) (h0 : 0 ≤ v) (h1 : v ≤ 4) : (#[.string ⟨#[]⟩, .string ⟨#[48]⟩, .string ⟨#[49]⟩, .string ⟨#[49, 49]⟩, .string ⟨#[50]⟩] : Array Value)[v.toNat]? = some (.string (pieceS v)) := by
  rcases (show v = 0 ∨ v = 1 ∨ v = 2 ∨ v = 3 ∨ v = 4 by omega) with e | e | e | e | e <;> simp [pieceS, e]
theorem piece_at (v : Int) (h : v.toNat < [Value.string ⟨#[]⟩, Value.string ⟨#[48]⟩, Value.string ⟨#[49]⟩, Value.string ⟨#[49, 49]⟩, Value.string ⟨#[50]⟩].length) (h0 : 0 ≤ v) (h1 : v ≤ 4) : [Value.string ⟨#[]⟩, Value.string ⟨#[48]⟩, Value.string ⟨#[49]⟩, Value.string ⟨#[49, 49]⟩, Value.string ⟨#[50]⟩][v.toNat]'h = .string (pieceS v) := by
  have e := piece_get v h0 h1
  rw [Array.getElem?_eq_some_iff] at e
  obtain ⟨_, e⟩ := e
  simpa using e
theorem writtenV_size (n : Int) : (writtenV n).size ≤ 19 := by
  cases h : inB n 0 10000 with
  | false => rw [writtenV_no h]; decide
  | true =>
    obtain ⟨n1, n2⟩ := inB_true h
    obtain ⟨m, rfl⟩ := Int.eq_ofNat_of_zero_le n1
    rw [writtenV_is h]
    exact (writtenT_size (by omega)).2
set_option maxRecDepth 100000 in
set_option maxHeartbeats 4000000 in
theorem drawReadWritten_any (w : World) (a : Option Addr) (len cap : Nat) (zs : List Int) (h : IsRow w a len cap zs) :
    Calls Try.prog 23 #[.slice a len cap] w (DrawnText w) := by
  go_enter Try.func23, Try.ntmps23
  go_wp2_with fail
  refine (open_any _ _ _ _ zs h).mono ?_
  rintro e w1 ⟨rfl, hR1, hh1, hzR1⟩
  try simp only [World.size_alloc] at hzR1
  try simp only [World.size_alloc] at hR1
  obtain ⟨hc1, hf1⟩ := bcell hh1
  have hz1 := hh1.size
  try simp only [World.size_alloc] at hz1
  go_wp2_with fail
  refine (l20Number_any w.heap.size 0 _ hR1 (by omega)).mono ?_
  rintro e w2 ⟨v2, rfl, hR2, hh2⟩
  obtain ⟨hc2, hf2⟩ := gcell hh2
  have hz2 := hh2.size
  try simp only [World.size_alloc] at hz2
  clear hc2 hf2
  go_wp2_with fail
  refine (specWritten_any v2 _).mono ?_
  rintro e w3 ⟨rfl, hh3⟩
  have hR3 := hR2.below hh3 (Nat.le_refl _)
  have hz3 := hh3.size
  have hsz := writtenV_size v2
  obtain ⟨t, ht⟩ : ∃ t, writtenV v2 = t := ⟨_, rfl⟩
  rw [ht] at hsz ⊢
  clear ht
  have hszi : (t.size : Int) ≤ 19 := by omega
  go_wp2_with fail
  refine (pick_any w.heap.size (0 + 7) 3 _ hR3 (by omega) (by omega)).mono ?_
  rintro e w4 ⟨v4, rfl, va4, vb4, hR4, hh4⟩
  have vc4 : v4 ≤ max (3 - 1) 0 := by omega
  clear vb4
  obtain ⟨hc4, hf4⟩ := gcell hh4
  have hz4 := hh4.size
  try simp only [World.size_alloc] at hz4
  clear hc4 hf4
  by_cases hgo : v4 = 0 ∧ 0 < t.size
  · obtain ⟨h4, h0⟩ := hgo
    subst h4
    have h0i : (0 : Int) < (t.size : Int) := by omega
    go_wp2_with fail
    refine (pick_any w.heap.size (0 + 7 + 1) (t.size : Int) _ hR4 (by omega) (by omega)).mono ?_
    rintro e w5 ⟨v5, rfl, va5, vb5, hR5, hh5⟩
    have vc5 : v5 ≤ max ((t.size : Int) - 1) 0 := by omega
    clear vb5
    obtain ⟨hc5, hf5⟩ := gcell hh5
    have hz5 := hh5.size
    clear hc5 hf5
    have v5lt : v5 < (t.size : Int) := by omega
    obtain ⟨k, rfl⟩ := Int.eq_ofNat_of_zero_le va5
    have klt : k < t.size := by omega
    have UK : IntKind.i64.wrap ((k : Int) + 1) = (k : Int) + 1 := by rw [IntKind.wrap_i64]; omega
    have hk0 : (0 : Int) ≤ (k : Int) := by omega
    have hk1 : (k : Int) ≤ (t.size : Int) := by omega
    have hk2 : (0 : Int) ≤ (k : Int) + 1 := by omega
    have hk3 : (k : Int) + 1 ≤ (t.size : Int) := by omega
    have hk4 : k ≤ t.size := by omega
    have hk5 : k + 1 ≤ t.size := by omega
    have hsel := piece_at
    have hps := pieceS_size
    have hx1 : (t.extract 0 k).size ≤ 19 := by rw [ByteArray.size_extract]; omega
    have hx2 : (t.extract (k + 1) t.size).size ≤ 19 := by rw [ByteArray.size_extract]; omega
    have hRlt := hR5.lt
    have hn5 : ¬ w5.heap.size = w.heap.size := by omega
    have hst5 : w.heap.size < w5.heap.size := hRlt
    go_wp2_with fail
    go_region_with (((first | (go_at_call 49; refine (pick_any w.heap.size _ _ _ (by first | assumption | exact Rd.alloc (by assumption) _ | exact Rd.below (by assumption) (by assumption) (Nat.le_refl _)) (by omega) (by omega)).mono ?_; rintro e wz ⟨v, rfl, va, vb, hRz, hhz⟩; (try (have vq : v ≤ 4 := (by omega); have vq5 : v < 5 := (by omega))); (have hpz := pieceS_size v); (have hsa : k + (pieceS v).size ≤ 9223372036854775807 := (by omega)); (have hsb : min k t.size + (pieceS v).size ≤ 9223372036854775807 := (by omega)); (have hsc : k + (pieceS v).size + (t.size - (k + 1)) ≤ 9223372036854775807 := (by omega)); (have hsd : min k t.size + (pieceS v).size + (t.size - (k + 1)) ≤ 9223372036854775807 := (by omega)); (have hsum1 : (t.extract 0 k).size + (pieceS v).size ≤ 9223372036854775807 := (by omega)); (have hsum2 : (t.extract 0 k).size + (pieceS v).size + (t.extract (k + 1) t.size).size ≤ 9223372036854775807 := (by omega)); (have hsum3 : ((t.extract 0 k) ++ pieceS v).size + (t.extract (k + 1) t.size).size ≤ 9223372036854775807 := (by rw [ByteArray.size_append]; exact hsum2)); clear vb; obtain ⟨hcz, hfz⟩ := gcell hhz; have hst := fun b (h : b < _) => Nat.lt_of_lt_of_le h hhz.size; have hzz := hhz.size; (try simp at hzz); (try have hzs := Nat.lt_of_succ_le hzz); have hne : ¬ wz.heap.size = w.heap.size := (by have := hRz.lt; omega)) | fail)))
    all_goals go_wp2
    all_goals go_ret
    all_goals exact ⟨_, rfl, by simp only [ByteArray.size_append]; omega, by (repeat (first | exact Below.refl _ _ | refine Below.setCell ?_ (by first | omega | (simp <;> omega)) _ | refine Below.alloc ?_ (by first | omega | (simp <;> omega)) _ | refine Below.drew ?_ | refine Below.trans ?_ (Below.mono (by assumption) (by first | omega | (simp <;> omega))) | refine Below.grown ?_ (by assumption) (by first | omega | (simp <;> omega)) (fun k e => by cases e; first | omega | (simp <;> omega))))⟩
  · by_cases h4 : v4 = 0
    · subst h4
      have h0 : t.size = 0 := by omega
      have h0i : (t.size : Int) ≤ 0 := by omega
      clear hgo
      go_wp2
      go_ret
      exact ⟨_, rfl, by omega, by (repeat (first | exact Below.refl _ _ | refine Below.setCell ?_ (by first | omega | (simp <;> omega)) _ | refine Below.alloc ?_ (by first | omega | (simp <;> omega)) _ | refine Below.drew ?_ | refine Below.trans ?_ (Below.mono (by assumption) (by first | omega | (simp <;> omega))) | refine Below.grown ?_ (by assumption) (by first | omega | (simp <;> omega)) (fun k e => by cases e; first | omega | (simp <;> omega))))⟩
    · have hv4 : (v4 == 0) = false := by rw [beq_eq_false_iff_ne]; exact h4
      clear hgo h4
      go_wp2
      go_ret
      exact ⟨_, rfl, by omega, by (repeat (first | exact Below.refl _ _ | refine Below.setCell ?_ (by first | omega | (simp <;> omega)) _ | refine Below.alloc ?_ (by first | omega | (simp <;> omega)) _ | refine Below.drew ?_ | refine Below.trans ?_ (Below.mono (by assumption) (by first | omega | (simp <;> omega))) | refine Below.grown ?_ (by assumption) (by first | omega | (simp <;> omega)) (fun k e => by cases e; first | omega | (simp <;> omega))))⟩
end Go.Proofs.Ytodeifciedjfgaa
