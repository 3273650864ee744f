/- What the functions behind what is left return, in the program: leftOf, the bounds, the state of two numbers and its methods. -/
import Derived.Test.YtgcpmgddlaeccaaLeftRow
import Derived.Test.YtgcpmgddlaeccaaNumberAt
import Derived.Deep.RegionHeld3
namespace Go.Proofs.Ytgcpmgddlaeccaa
open Go.RowKit
set_option maxHeartbeats 400000 in
theorem leftOf_at (n m v : Int) (w : World) (h1 : 1 ≤ m) (h2 : m ≤ 1000000000000) (hv : n % m = v) :
    Calls Try.prog 46 #[.int .i64 n, .int .i64 m] w fun e w' => e = .returned (.int .i64 v) ∧ w = w' := by
  have hz : (m == 0) = false := by simp; omega
  have t1 : n.tmod m < m := Int.tmod_lt_of_pos n (by omega)
  have t2 : -m < n.tmod m := by
    have := Int.tmod_lt_of_pos (-n) (b := m) (by omega)
    rw [Int.neg_tmod] at this
    omega
  by_cases hs : n.tmod m < 0
  · have E := Lib.hid (show n.tmod m + m = v by
      have := go_left2 n m
      rw [Int.emod_eq_of_lt (by omega) (by omega)] at this
      omega)
    clear hv
    go_enter Try.func46, Try.ntmps46
    go_wp2
    go_ret
    exact ⟨ret_int E.out, rfl⟩
  · have E := Lib.hid (show n.tmod m = v by
      have := go_left2 n m
      rw [Int.add_emod_right, Int.emod_eq_of_lt (by omega) (by omega)] at this
      omega)
    have hs' : 0 ≤ n.tmod m := by omega
    clear hv hs
    go_enter Try.func46, Try.ntmps46
    go_wp2
    go_ret
    exact ⟨ret_int E.out, rfl⟩
set_option maxHeartbeats 400000 in
theorem farOk_any (n : Int) (w : World) :
    Calls Try.prog 37 #[.int .i64 n] w fun e w' => e = .returned (.bool (inB n 0 1000000000)) ∧ w = w' := by
  by_cases h1 : 0 ≤ n
  · by_cases h2 : n ≤ 1000000000
    · have H := Lib.hid (inB_mk h1 h2)
      go_enter Try.func37, Try.ntmps37
      go_wp2
      go_ret
      exact ⟨ret_bool H.out.symm, rfl⟩
    · have H := Lib.hid (inB_no (n := n) (a := 0) (b := 1000000000) (by omega))
      have h2' : 1000000000 < n := by omega
      go_enter Try.func37, Try.ntmps37
      go_wp2
      go_ret
      exact ⟨ret_bool H.out.symm, rfl⟩
  · have H := Lib.hid (inB_no (n := n) (a := 0) (b := 1000000000) (by omega))
    have h1' : n < 0 := by omega
    go_enter Try.func37, Try.ntmps37
    go_wp2
    go_ret
    exact ⟨ret_bool H.out.symm, rfl⟩
theorem farOk_is (n : Int) (c : Bool) (w : World) (h : inB n 0 1000000000 = c) : Calls Try.prog 37 #[.int .i64 n] w fun e w' => e = .returned (.bool c) ∧ w = w' := by have := farOk_any n w; rw [h] at this; exact this
set_option maxHeartbeats 400000 in
theorem byOk_any (n : Int) (w : World) :
    Calls Try.prog 38 #[.int .i64 n] w fun e w' => e = .returned (.bool (inB n 1 10000)) ∧ w = w' := by
  by_cases h1 : 1 ≤ n
  · by_cases h2 : n ≤ 10000
    · have H := Lib.hid (inB_mk h1 h2)
      go_enter Try.func38, Try.ntmps38
      go_wp2
      go_ret
      exact ⟨ret_bool H.out.symm, rfl⟩
    · have H := Lib.hid (inB_no (n := n) (a := 1) (b := 10000) (by omega))
      have h2' : 10000 < n := by omega
      go_enter Try.func38, Try.ntmps38
      go_wp2
      go_ret
      exact ⟨ret_bool H.out.symm, rfl⟩
  · have H := Lib.hid (inB_no (n := n) (a := 1) (b := 10000) (by omega))
    have h1' : n < 1 := by omega
    go_enter Try.func38, Try.ntmps38
    go_wp2
    go_ret
    exact ⟨ret_bool H.out.symm, rfl⟩
theorem byOk_is (n : Int) (c : Bool) (w : World) (h : inB n 1 10000 = c) : Calls Try.prog 38 #[.int .i64 n] w fun e w' => e = .returned (.bool c) ∧ w = w' := by have := byOk_any n w; rw [h] at this; exact this
set_option maxHeartbeats 2000000 in
theorem second_at (a b p q m : Int) (r1 : -4 ≤ p) (r2 : p ≤ 4) (h1 : 1 ≤ m) (h2 : m ≤ 10000) (a1 : 0 ≤ a) (a2 : a < m) (b1 : 0 ≤ b) (b2 : b < m) (v : Int) (w : World) (hv : (2 * b - p * a) % m = v) :
    Calls Try.prog 45 #[pr a b, pr p q, .int .i64 m] w fun e w' => e = .returned (.int .i64 v) ∧ Below w.heap.size w w' := by
  obtain ⟨x1, x2⟩ := mul_bd (b := 10000) r1 r2 (show -10000 ≤ a by omega) (by omega)
  have m3 : m ≤ 1000000000000 := by omega
  have HV := Lib.hid hv
  clear hv
  go_enter Try.func45, Try.ntmps45
  go_wp2_with fail
  refine (leftOf_at _ m _ _ h1 m3 HV.out).mono ?_
  rintro e wx ⟨rfl, rfl⟩
  go_wp2
  go_ret
  exact ⟨rfl, by (repeat (first | exact Below.refl _ _ | refine Below.setCell ?_ (by first | omega | (simp <;> omega)) _ | refine Below.alloc ?_ (by first | omega | (simp <;> omega)) _ | refine Below.drew ?_ | refine Below.trans ?_ (Below.mono (by assumption) (by first | omega | (simp <;> omega))) | refine Below.grown ?_ (by assumption) (by first | omega | (simp <;> omega)) (fun k e => by cases e; first | omega | (simp <;> omega))))⟩
set_option maxHeartbeats 2000000 in
theorem goneOn_at (a b p q m : Int) (r1 : -4 ≤ p) (r2 : p ≤ 4) (r3 : -4 ≤ q) (r4 : q ≤ 4) (h1 : 1 ≤ m) (h2 : m ≤ 10000) (a1 : 0 ≤ a) (a2 : a < m) (b1 : 0 ≤ b) (b2 : b < m) (v : Int) (w : World) (hv : (p * b - q * a) % m = v) :
    Calls Try.prog 50 #[pr a b, pr p q, .int .i64 m] w fun e w' => e = .returned (pr b v) ∧ Below w.heap.size w w' := by
  obtain ⟨x1, x2⟩ := mul_bd (b := 10000) r1 r2 (show -10000 ≤ b by omega) (by omega)
  obtain ⟨x3, x4⟩ := mul_bd (b := 10000) r3 r4 (show -10000 ≤ a by omega) (by omega)
  have m3 : m ≤ 1000000000000 := by omega
  have U1 : IntKind.i64.wrap (p * b) = p * b := by rw [IntKind.wrap_i64]; omega
  have U2 : IntKind.i64.wrap (q * a) = q * a := by rw [IntKind.wrap_i64]; omega
  have U3 : IntKind.i64.wrap (p * b - q * a) = p * b - q * a := by rw [IntKind.wrap_i64]; omega
  have HV := Lib.hid hv
  clear hv x1 x2 x3 x4
  go_enter Try.func50, Try.ntmps50
  go_wp2_with fail
  go_region_held3 (fun w' => w'.cell? ⟨w.heap.size, 0, none⟩ = some (.int .i64 a) ∧ w'.cell? ⟨w.heap.size, 1, none⟩ = some (.int .i64 b) ∧ w'.cell? ⟨w.heap.size + 1, 0, none⟩ = some (.int .i64 p) ∧ w'.cell? ⟨w.heap.size + 1, 1, none⟩ = some (.int .i64 q))
    (first | go_keep | (go_split_ands; exact ⟨kx0, kx1, kx2, kx3⟩))
    ((first | (go_at_call 46; refine (leftOf_at _ m _ _ h1 m3 HV.out).mono ?_; rintro e w2 ⟨rfl, rfl⟩) | fail))
  go_wp2
  refine bodyPost_ret (v := pr b v) (by simp [results, Try.results50, go_sem]) rfl ⟨rfl, ?_⟩
  (repeat (first | exact Below.refl _ _ | refine Below.setCell ?_ (by first | omega | (simp <;> omega)) _ | refine Below.alloc ?_ (by first | omega | (simp <;> omega)) _ | refine Below.drew ?_ | refine Below.trans ?_ (Below.mono (by assumption) (by first | omega | (simp <;> omega))) | refine Below.grown ?_ (by assumption) (by first | omega | (simp <;> omega)) (fun k e => by cases e; first | omega | (simp <;> omega))))
set_option maxRecDepth 100000 in
set_option maxHeartbeats 4000000 in
theorem doubled_at (a b p q m : Int) (r1 : -4 ≤ p) (r2 : p ≤ 4) (r3 : -4 ≤ q) (r4 : q ≤ 4) (h1 : 1 ≤ m) (h2 : m ≤ 10000) (a1 : 0 ≤ a) (a2 : a < m) (b1 : 0 ≤ b) (b2 : b < m) (c v u : Int) (w : World) (hc : (2 * b - p * a) % m = c) (hv : a * c % m = v) (hu : (b * b - q * a * a) % m = u) :
    Calls Try.prog 53 #[pr a b, pr p q, .int .i64 m] w fun e w' => e = .returned (pr v u) ∧ Below w.heap.size w w' := by
  have c1 : 0 ≤ c ∧ c < m := by rw [← hc]; exact left_bd _ m h1
  obtain ⟨x1, x2⟩ := mul_bd (a := 10000) (b := 10000) (show -10000 ≤ a by omega) (by omega) (show -10000 ≤ c by omega) (by omega)
  obtain ⟨x3, x4⟩ := mul_bd (a := 10000) (b := 10000) (show -10000 ≤ b by omega) (by omega) (show -10000 ≤ b by omega) (by omega)
  obtain ⟨x5, x6⟩ := mul_bd (b := 10000) r3 r4 (show -10000 ≤ a by omega) (by omega)
  obtain ⟨x7, x8⟩ := mul_bd (b := 10000) x5 x6 (show -10000 ≤ a by omega) (by omega)
  have m3 : m ≤ 1000000000000 := by omega
  have U1 : IntKind.i64.wrap (a * c) = a * c := by rw [IntKind.wrap_i64]; omega
  have U2 : IntKind.i64.wrap (b * b) = b * b := by rw [IntKind.wrap_i64]; omega
  have U3 : IntKind.i64.wrap (q * a) = q * a := by rw [IntKind.wrap_i64]; omega
  have U4 : IntKind.i64.wrap (q * a * a) = q * a * a := by rw [IntKind.wrap_i64]; omega
  have U5 : IntKind.i64.wrap (b * b - q * a * a) = b * b - q * a * a := by rw [IntKind.wrap_i64]; omega
  have HC := Lib.hid hc
  have HV := Lib.hid hv
  have HU := Lib.hid hu
  clear hc hv hu x1 x2 x3 x4 x5 x6 x7 x8
  go_enter Try.func53, Try.ntmps53
  go_wp2_with fail
  go_region_held3 (fun w' => w'.cell? ⟨w.heap.size, 0, none⟩ = some (.int .i64 a) ∧ w'.cell? ⟨w.heap.size, 1, none⟩ = some (.int .i64 b) ∧ w'.cell? ⟨w.heap.size + 1, 0, none⟩ = some (.int .i64 p) ∧ w'.cell? ⟨w.heap.size + 1, 1, none⟩ = some (.int .i64 q))
    (first | (go_split_ands; (repeat' apply And.intro) <;> (repeat (first | assumption | refine (set_other (by omega)).trans ?_)); done) | go_keep | (go_split_ands; exact ⟨kx0, kx1, kx2, kx3⟩))
    ((first | (go_at_call 45; refine (second_at a b p q m r1 r2 h1 h2 a1 a2 b1 b2 c _ HC.out).mono ?_; rintro e w2 ⟨rfl, hh2⟩; have hz2 := hh2.size; (try simp at hz2); have ks0_0 := (hh2.cell (p := ⟨w.heap.size + 1 + 1, 0, none⟩) (by first | omega | (simp <;> omega))); have kg0_0 := (hh2.frozen (p := ⟨w.heap.size + 1 + 1, 0, none⟩) (by first | omega | (simp <;> omega))); have ks0_1 := (hh2.cell (p := ⟨w.heap.size + 1 + 1, 1, none⟩) (by first | omega | (simp <;> omega))); have kg0_1 := (hh2.frozen (p := ⟨w.heap.size + 1 + 1, 1, none⟩) (by first | omega | (simp <;> omega))); have kx0 := (hh2.cell (p := ⟨w.heap.size, 0, none⟩) (by first | omega | (simp <;> omega))); have kx1 := (hh2.cell (p := ⟨w.heap.size, 1, none⟩) (by first | omega | (simp <;> omega))); have kx2 := (hh2.cell (p := ⟨w.heap.size + 1, 0, none⟩) (by first | omega | (simp <;> omega))); have kx3 := (hh2.cell (p := ⟨w.heap.size + 1, 1, none⟩) (by first | omega | (simp <;> omega)))) | (go_at_call 46; refine (leftOf_at _ m _ _ h1 m3 rfl).mono ?_; rintro e w2 ⟨rfl, rfl⟩) | fail))
  go_wp2
  refine bodyPost_ret (v := pr (a * c % m) ((b * b - q * a * a) % m)) (by simp [results, Try.results53, go_sem, ks0_0, ks0_1]) rfl ⟨by rw [HV.out, HU.out], ?_⟩
  (repeat (first | exact Below.refl _ _ | refine Below.setCell ?_ (by first | omega | (simp <;> omega)) _ | refine Below.alloc ?_ (by first | omega | (simp <;> omega)) _ | refine Below.drew ?_ | refine Below.trans ?_ (Below.mono (by assumption) (by first | omega | (simp <;> omega))) | refine Below.grown ?_ (by assumption) (by first | omega | (simp <;> omega)) (fun k e => by cases e; first | omega | (simp <;> omega))))
set_option maxHeartbeats 400000 in
theorem leftAtStart_at (m : Int) (w : World) (h1 : 1 ≤ m) (h2 : m ≤ 10000) :
    Calls Try.prog 49 #[.int .i64 m] w fun e w' => e = .returned (pr 0 (1 % m)) ∧ Below w.heap.size w w' := by
  have m3 : m ≤ 1000000000000 := by omega
  go_enter Try.func49, Try.ntmps49
  go_wp2_with fail
  refine (leftOf_at 1 m _ _ h1 m3 rfl).mono ?_
  rintro e wx ⟨rfl, rfl⟩
  go_wp2
  refine bodyPost_ret (v := pr 0 (1 % m)) (by simp [results, Try.results49, go_sem]) rfl ⟨rfl, ?_⟩
  (repeat (first | exact Below.refl _ _ | refine Below.setCell ?_ (by first | omega | (simp <;> omega)) _ | refine Below.alloc ?_ (by first | omega | (simp <;> omega)) _ | refine Below.drew ?_ | refine Below.trans ?_ (Below.mono (by assumption) (by first | omega | (simp <;> omega))) | refine Below.grown ?_ (by assumption) (by first | omega | (simp <;> omega)) (fun k e => by cases e; first | omega | (simp <;> omega))))
end Go.Proofs.Ytgcpmgddlaeccaa
