/- What toldBy returns: both sides of a rule agree. -/
import Derived.Test.YtcnaijmmoldbpaaSumTwo
import Derived.Test.YtcnaijmmoldbpaaSumTotal
import Derived.Laws.EntriesVeiled
namespace Go.Proofs.Ytcnaijmmoldbpaa
open Go.RowKit
set_option maxHeartbeats 400000 in
theorem agreed_same (v : Int) (w : World) :
    Calls Try.prog 39 #[.int .i64 v, .int .i64 v] w fun e w' => e = .returned (.tuple #[.int .i64 v, .bool true]) ∧ w = w' := by
  go_enter Try.func39, Try.ntmps39
  go_wp2
  go_ret2
  exact ⟨rfl, rfl⟩
/-- What rules returns: a slice of four rules, each of its two sides. -/
def Ruled (w : World) (e : Ending) (w' : World) : Prop :=
  ∃ g : Nat, e = .returned (.slice (some ⟨g, 0, none⟩) 4 4) ∧ w.heap.size ≤ g ∧ g < w'.heap.size ∧ w'.cell? ⟨g, 0, none⟩ = some (.func (.func 42) #[] #[]) ∧ w'.cell? ⟨g, 1, none⟩ = some (.func (.func 43) #[] #[]) ∧ w'.cell? ⟨g, 2, none⟩ = some (.func (.func 44) #[] #[]) ∧ w'.cell? ⟨g, 3, none⟩ = some (.func (.func 45) #[] #[]) ∧ w'.cell? ⟨g, 4, none⟩ = some (.func (.func 46) #[] #[]) ∧ w'.cell? ⟨g, 5, none⟩ = some (.func (.func 47) #[] #[]) ∧ w'.cell? ⟨g, 6, none⟩ = some (.func (.func 48) #[] #[]) ∧ w'.cell? ⟨g, 7, none⟩ = some (.func (.func 49) #[] #[]) ∧ Below w.heap.size w w'
set_option maxHeartbeats 400000 in
theorem rules_any (w : World) : Calls Try.prog 38 #[] w (Ruled w) := by
  go_enter Try.func38, Try.ntmps38
  go_wp2
  go_ret
  exact ⟨_, rfl, Nat.le_refl _, by simp, by go_simp, by go_simp, by go_simp, by go_simp, by go_simp, by go_simp, by go_simp, by go_simp, (Below.refl _ _).alloc (Nat.le_refl _) _⟩
set_option maxRecDepth 100000 in
set_option maxHeartbeats 4000000 in
theorem told0 (p q a b v : Int) (w : World)
    (hm : ∀ w, Calls Try.prog 42 #[pr p q, .int .i64 a, .int .i64 b] w fun e w' => e = .returned (.int .i64 v) ∧ Below w.heap.size w w')
    (hk : ∀ w, Calls Try.prog 43 #[pr p q, .int .i64 a, .int .i64 b] w fun e w' => e = .returned (.int .i64 v) ∧ Below w.heap.size w w') :
    Calls Try.prog 31 #[.int .i64 0, pr p q, .int .i64 a, .int .i64 b] w fun e w' => e = .returned (.tuple #[.int .i64 v, .bool true]) ∧ Below w.heap.size w w' := by
  have HM := Lib.hid hm
  have HK := Lib.hid hk
  clear hm hk
  go_enter Try.func31, Try.ntmps31
  go_wp2_with fail
  refine (rules_any _).mono ?_
  rintro e w1 ⟨g, rfl, hg1, hg2, k0, k1, k2, k3, k4, k5, k6, k7, hh1⟩
  have hz1 := hh1.size
  try simp only [World.size_alloc] at hz1
  have hz0 : w.heap.size < w1.heap.size := by omega
  have kp : w1.cell? ⟨w.heap.size, 0, none⟩ = some (.int .i64 p) := by rw [hh1.cell (p := ⟨w.heap.size, 0, none⟩) (by simp)]; go_simp
  have kq : w1.cell? ⟨w.heap.size, 1, none⟩ = some (.int .i64 q) := by rw [hh1.cell (p := ⟨w.heap.size, 1, none⟩) (by simp)]; go_simp
  go_wp2_with fail
  go_region_held3 (fun w' => w'.cell? ⟨w.heap.size, 0, none⟩ = some (.int .i64 p) ∧ w'.cell? ⟨w.heap.size, 1, none⟩ = some (.int .i64 q) ∧ w'.cell? ⟨w1.heap.size, 0, none⟩ = some (.func (.func 42) #[] #[]) ∧ w'.cell? ⟨w1.heap.size, 1, none⟩ = some (.func (.func 43) #[] #[]))
    (first | go_keep | (go_split_ands; exact ⟨kx0, kx1, kx2, kx3⟩))
    ((first | (go_at_call 42; refine (HM.out _).mono ?_; rintro e w2 ⟨rfl, hh2⟩; have hz2 := hh2.size; (try simp at hz2); have kx0 := (hh2.cell (p := ⟨w.heap.size, 0, none⟩) (by first | omega | (simp <;> omega))); have kx1 := (hh2.cell (p := ⟨w.heap.size, 1, none⟩) (by first | omega | (simp <;> omega))); have kx2 := (hh2.cell (p := ⟨w1.heap.size, 0, none⟩) (by first | omega | (simp <;> omega))); have kx3 := (hh2.cell (p := ⟨w1.heap.size, 1, none⟩) (by first | omega | (simp <;> omega)))) | (go_at_call 43; refine (HK.out _).mono ?_; rintro e w2 ⟨rfl, hh2⟩; have hz2 := hh2.size; (try simp at hz2); have kx0 := (hh2.cell (p := ⟨w.heap.size, 0, none⟩) (by first | omega | (simp <;> omega))); have kx1 := (hh2.cell (p := ⟨w.heap.size, 1, none⟩) (by first | omega | (simp <;> omega))); have kx2 := (hh2.cell (p := ⟨w1.heap.size, 0, none⟩) (by first | omega | (simp <;> omega))); have kx3 := (hh2.cell (p := ⟨w1.heap.size, 1, none⟩) (by first | omega | (simp <;> omega)))) | (go_at_call 39; refine (agreed_same v _).mono ?_; rintro e w2 ⟨rfl, rfl⟩) | fail))
  go_wp2
  go_ret2
  exact ⟨rfl, by (repeat (first | exact Below.refl _ _ | refine Below.setCell ?_ (by first | omega | (simp <;> omega)) _ | refine Below.alloc ?_ (by first | omega | (simp <;> omega)) _ | refine Below.drew ?_ | refine Below.trans ?_ (Below.mono (by assumption) (by first | omega | (simp <;> omega))) | refine Below.grown ?_ (by assumption) (by first | omega | (simp <;> omega)) (fun k e => by cases e; first | omega | (simp <;> omega))))⟩
set_option maxRecDepth 100000 in
set_option maxHeartbeats 4000000 in
theorem told1 (p q a b v : Int) (w : World)
    (hm : ∀ w, Calls Try.prog 44 #[pr p q, .int .i64 a, .int .i64 b] w fun e w' => e = .returned (.int .i64 v) ∧ Below w.heap.size w w')
    (hk : ∀ w, Calls Try.prog 45 #[pr p q, .int .i64 a, .int .i64 b] w fun e w' => e = .returned (.int .i64 v) ∧ Below w.heap.size w w') :
    Calls Try.prog 31 #[.int .i64 1, pr p q, .int .i64 a, .int .i64 b] w fun e w' => e = .returned (.tuple #[.int .i64 v, .bool true]) ∧ Below w.heap.size w w' := by
  have HM := Lib.hid hm
  have HK := Lib.hid hk
  clear hm hk
  go_enter Try.func31, Try.ntmps31
  go_wp2_with fail
  refine (rules_any _).mono ?_
  rintro e w1 ⟨g, rfl, hg1, hg2, k0, k1, k2, k3, k4, k5, k6, k7, hh1⟩
  have hz1 := hh1.size
  try simp only [World.size_alloc] at hz1
  have hz0 : w.heap.size < w1.heap.size := by omega
  have kp : w1.cell? ⟨w.heap.size, 0, none⟩ = some (.int .i64 p) := by rw [hh1.cell (p := ⟨w.heap.size, 0, none⟩) (by simp)]; go_simp
  have kq : w1.cell? ⟨w.heap.size, 1, none⟩ = some (.int .i64 q) := by rw [hh1.cell (p := ⟨w.heap.size, 1, none⟩) (by simp)]; go_simp
  go_wp2_with fail
  go_region_held3 (fun w' => w'.cell? ⟨w.heap.size, 0, none⟩ = some (.int .i64 p) ∧ w'.cell? ⟨w.heap.size, 1, none⟩ = some (.int .i64 q) ∧ w'.cell? ⟨w1.heap.size, 0, none⟩ = some (.func (.func 44) #[] #[]) ∧ w'.cell? ⟨w1.heap.size, 1, none⟩ = some (.func (.func 45) #[] #[]))
    (first | go_keep | (go_split_ands; exact ⟨kx0, kx1, kx2, kx3⟩))
    ((first | (go_at_call 44; refine (HM.out _).mono ?_; rintro e w2 ⟨rfl, hh2⟩; have hz2 := hh2.size; (try simp at hz2); have kx0 := (hh2.cell (p := ⟨w.heap.size, 0, none⟩) (by first | omega | (simp <;> omega))); have kx1 := (hh2.cell (p := ⟨w.heap.size, 1, none⟩) (by first | omega | (simp <;> omega))); have kx2 := (hh2.cell (p := ⟨w1.heap.size, 0, none⟩) (by first | omega | (simp <;> omega))); have kx3 := (hh2.cell (p := ⟨w1.heap.size, 1, none⟩) (by first | omega | (simp <;> omega)))) | (go_at_call 45; refine (HK.out _).mono ?_; rintro e w2 ⟨rfl, hh2⟩; have hz2 := hh2.size; (try simp at hz2); have kx0 := (hh2.cell (p := ⟨w.heap.size, 0, none⟩) (by first | omega | (simp <;> omega))); have kx1 := (hh2.cell (p := ⟨w.heap.size, 1, none⟩) (by first | omega | (simp <;> omega))); have kx2 := (hh2.cell (p := ⟨w1.heap.size, 0, none⟩) (by first | omega | (simp <;> omega))); have kx3 := (hh2.cell (p := ⟨w1.heap.size, 1, none⟩) (by first | omega | (simp <;> omega)))) | (go_at_call 39; refine (agreed_same v _).mono ?_; rintro e w2 ⟨rfl, rfl⟩) | fail))
  go_wp2
  go_ret2
  exact ⟨rfl, by (repeat (first | exact Below.refl _ _ | refine Below.setCell ?_ (by first | omega | (simp <;> omega)) _ | refine Below.alloc ?_ (by first | omega | (simp <;> omega)) _ | refine Below.drew ?_ | refine Below.trans ?_ (Below.mono (by assumption) (by first | omega | (simp <;> omega))) | refine Below.grown ?_ (by assumption) (by first | omega | (simp <;> omega)) (fun k e => by cases e; first | omega | (simp <;> omega))))⟩
set_option maxRecDepth 100000 in
set_option maxHeartbeats 4000000 in
theorem told2 (p q a b v : Int) (w : World)
    (hm : ∀ w, Calls Try.prog 46 #[pr p q, .int .i64 a, .int .i64 b] w fun e w' => e = .returned (.int .i64 v) ∧ Below w.heap.size w w')
    (hk : ∀ w, Calls Try.prog 47 #[pr p q, .int .i64 a, .int .i64 b] w fun e w' => e = .returned (.int .i64 v) ∧ Below w.heap.size w w') :
    Calls Try.prog 31 #[.int .i64 2, pr p q, .int .i64 a, .int .i64 b] w fun e w' => e = .returned (.tuple #[.int .i64 v, .bool true]) ∧ Below w.heap.size w w' := by
  have HM := Lib.hid hm
  have HK := Lib.hid hk
  clear hm hk
  go_enter Try.func31, Try.ntmps31
  go_wp2_with fail
  refine (rules_any _).mono ?_
  rintro e w1 ⟨g, rfl, hg1, hg2, k0, k1, k2, k3, k4, k5, k6, k7, hh1⟩
  have hz1 := hh1.size
  try simp only [World.size_alloc] at hz1
  have hz0 : w.heap.size < w1.heap.size := by omega
  have kp : w1.cell? ⟨w.heap.size, 0, none⟩ = some (.int .i64 p) := by rw [hh1.cell (p := ⟨w.heap.size, 0, none⟩) (by simp)]; go_simp
  have kq : w1.cell? ⟨w.heap.size, 1, none⟩ = some (.int .i64 q) := by rw [hh1.cell (p := ⟨w.heap.size, 1, none⟩) (by simp)]; go_simp
  go_wp2_with fail
  go_region_held3 (fun w' => w'.cell? ⟨w.heap.size, 0, none⟩ = some (.int .i64 p) ∧ w'.cell? ⟨w.heap.size, 1, none⟩ = some (.int .i64 q) ∧ w'.cell? ⟨w1.heap.size, 0, none⟩ = some (.func (.func 46) #[] #[]) ∧ w'.cell? ⟨w1.heap.size, 1, none⟩ = some (.func (.func 47) #[] #[]))
    (first | go_keep | (go_split_ands; exact ⟨kx0, kx1, kx2, kx3⟩))
    ((first | (go_at_call 46; refine (HM.out _).mono ?_; rintro e w2 ⟨rfl, hh2⟩; have hz2 := hh2.size; (try simp at hz2); have kx0 := (hh2.cell (p := ⟨w.heap.size, 0, none⟩) (by first | omega | (simp <;> omega))); have kx1 := (hh2.cell (p := ⟨w.heap.size, 1, none⟩) (by first | omega | (simp <;> omega))); have kx2 := (hh2.cell (p := ⟨w1.heap.size, 0, none⟩) (by first | omega | (simp <;> omega))); have kx3 := (hh2.cell (p := ⟨w1.heap.size, 1, none⟩) (by first | omega | (simp <;> omega)))) | (go_at_call 47; refine (HK.out _).mono ?_; rintro e w2 ⟨rfl, hh2⟩; have hz2 := hh2.size; (try simp at hz2); have kx0 := (hh2.cell (p := ⟨w.heap.size, 0, none⟩) (by first | omega | (simp <;> omega))); have kx1 := (hh2.cell (p := ⟨w.heap.size, 1, none⟩) (by first | omega | (simp <;> omega))); have kx2 := (hh2.cell (p := ⟨w1.heap.size, 0, none⟩) (by first | omega | (simp <;> omega))); have kx3 := (hh2.cell (p := ⟨w1.heap.size, 1, none⟩) (by first | omega | (simp <;> omega)))) | (go_at_call 39; refine (agreed_same v _).mono ?_; rintro e w2 ⟨rfl, rfl⟩) | fail))
  go_wp2
  go_ret2
  exact ⟨rfl, by (repeat (first | exact Below.refl _ _ | refine Below.setCell ?_ (by first | omega | (simp <;> omega)) _ | refine Below.alloc ?_ (by first | omega | (simp <;> omega)) _ | refine Below.drew ?_ | refine Below.trans ?_ (Below.mono (by assumption) (by first | omega | (simp <;> omega))) | refine Below.grown ?_ (by assumption) (by first | omega | (simp <;> omega)) (fun k e => by cases e; first | omega | (simp <;> omega))))⟩
set_option maxRecDepth 100000 in
set_option maxHeartbeats 4000000 in
theorem told3 (p q a b v : Int) (w : World)
    (hm : ∀ w, Calls Try.prog 48 #[pr p q, .int .i64 a, .int .i64 b] w fun e w' => e = .returned (.int .i64 v) ∧ Below w.heap.size w w')
    (hk : ∀ w, Calls Try.prog 49 #[pr p q, .int .i64 a, .int .i64 b] w fun e w' => e = .returned (.int .i64 v) ∧ Below w.heap.size w w') :
    Calls Try.prog 31 #[.int .i64 3, pr p q, .int .i64 a, .int .i64 b] w fun e w' => e = .returned (.tuple #[.int .i64 v, .bool true]) ∧ Below w.heap.size w w' := by
  have HM := Lib.hid hm
  have HK := Lib.hid hk
  clear hm hk
  go_enter Try.func31, Try.ntmps31
  go_wp2_with fail
  refine (rules_any _).mono ?_
  rintro e w1 ⟨g, rfl, hg1, hg2, k0, k1, k2, k3, k4, k5, k6, k7, hh1⟩
  have hz1 := hh1.size
  try simp only [World.size_alloc] at hz1
  have hz0 : w.heap.size < w1.heap.size := by omega
  have kp : w1.cell? ⟨w.heap.size, 0, none⟩ = some (.int .i64 p) := by rw [hh1.cell (p := ⟨w.heap.size, 0, none⟩) (by simp)]; go_simp
  have kq : w1.cell? ⟨w.heap.size, 1, none⟩ = some (.int .i64 q) := by rw [hh1.cell (p := ⟨w.heap.size, 1, none⟩) (by simp)]; go_simp
  go_wp2_with fail
  go_region_held3 (fun w' => w'.cell? ⟨w.heap.size, 0, none⟩ = some (.int .i64 p) ∧ w'.cell? ⟨w.heap.size, 1, none⟩ = some (.int .i64 q) ∧ w'.cell? ⟨w1.heap.size, 0, none⟩ = some (.func (.func 48) #[] #[]) ∧ w'.cell? ⟨w1.heap.size, 1, none⟩ = some (.func (.func 49) #[] #[]))
    (first | go_keep | (go_split_ands; exact ⟨kx0, kx1, kx2, kx3⟩))
    ((first | (go_at_call 48; refine (HM.out _).mono ?_; rintro e w2 ⟨rfl, hh2⟩; have hz2 := hh2.size; (try simp at hz2); have kx0 := (hh2.cell (p := ⟨w.heap.size, 0, none⟩) (by first | omega | (simp <;> omega))); have kx1 := (hh2.cell (p := ⟨w.heap.size, 1, none⟩) (by first | omega | (simp <;> omega))); have kx2 := (hh2.cell (p := ⟨w1.heap.size, 0, none⟩) (by first | omega | (simp <;> omega))); have kx3 := (hh2.cell (p := ⟨w1.heap.size, 1, none⟩) (by first | omega | (simp <;> omega)))) | (go_at_call 49; refine (HK.out _).mono ?_; rintro e w2 ⟨rfl, hh2⟩; have hz2 := hh2.size; (try simp at hz2); have kx0 := (hh2.cell (p := ⟨w.heap.size, 0, none⟩) (by first | omega | (simp <;> omega))); have kx1 := (hh2.cell (p := ⟨w.heap.size, 1, none⟩) (by first | omega | (simp <;> omega))); have kx2 := (hh2.cell (p := ⟨w1.heap.size, 0, none⟩) (by first | omega | (simp <;> omega))); have kx3 := (hh2.cell (p := ⟨w1.heap.size, 1, none⟩) (by first | omega | (simp <;> omega)))) | (go_at_call 39; refine (agreed_same v _).mono ?_; rintro e w2 ⟨rfl, rfl⟩) | fail))
  go_wp2
  go_ret2
  exact ⟨rfl, by (repeat (first | exact Below.refl _ _ | refine Below.setCell ?_ (by first | omega | (simp <;> omega)) _ | refine Below.alloc ?_ (by first | omega | (simp <;> omega)) _ | refine Below.drew ?_ | refine Below.trans ?_ (Below.mono (by assumption) (by first | omega | (simp <;> omega))) | refine Below.grown ?_ (by assumption) (by first | omega | (simp <;> omega)) (fun k e => by cases e; first | omega | (simp <;> omega))))⟩
end Go.Proofs.Ytcnaijmmoldbpaa
