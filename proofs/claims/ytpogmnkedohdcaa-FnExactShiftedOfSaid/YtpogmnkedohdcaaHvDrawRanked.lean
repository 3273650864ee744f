/- Contracts that the statement's proof stands on. -/
import Derived.Test.YtpogmnkedohdcaaAll0b

namespace Go.Proofs.Ytpogmnkedohdcaa
open Go.RowKit
/-- One of six numbers, by half of another one. -/
def six_ (v a b c d e f : Int) : Int := if v / 2 = 0 then a else if v / 2 = 1 then b else if v / 2 = 2 then c else if v / 2 = 3 then d else if v / 2 = 4 then e else f
theorem six_get (v a b c d e f : Int) (h0 : 0 ≤ v) (h1 : v ≤ 11) : (#[.int .i64 a, .int .i64 b, .int .i64 c, .int .i64 d, .int .i64 e, .int .i64 f] : Array Value)[(v / 2).toNat]? = some (.int .i64 (six_ v a b c d e f)) := by
  rcases (show v / 2 = 0 ∨ v / 2 = 1 ∨ v / 2 = 2 ∨ v / 2 = 3 ∨ v / 2 = 4 ∨ v / 2 = 5 by omega) with e | e | e | e | e | e <;> simp [six_, e]
theorem six_at (v a b c d e f : Int) (h : (v / 2).toNat < [Value.int .i64 a, Value.int .i64 b, Value.int .i64 c, Value.int .i64 d, Value.int .i64 e, Value.int .i64 f].length) (h0 : 0 ≤ v) (h1 : v ≤ 11) : [Value.int .i64 a, Value.int .i64 b, Value.int .i64 c, Value.int .i64 d, Value.int .i64 e, Value.int .i64 f][(v / 2).toNat]'h = .int .i64 (six_ v a b c d e f) := by
  have e := six_get v a b c d e f h0 h1
  rw [Array.getElem?_eq_some_iff] at e
  obtain ⟨_, e⟩ := e
  simpa using e
set_option maxRecDepth 100000 in
set_option maxHeartbeats 8000000 in
theorem l20Ranked_any (R k : Nat) (w : World) (h : Rd w R k) (hk : k ≤ 1000000) :
    Calls Try.prog 57 #[.pointer (some ⟨R, 0, none⟩)] w (NumberDrawn w R k 6) := by
  have hRlt := h.lt
  have hsel := six_at
  go_enter Try.func57, Try.ntmps57
  go_wp2_with fail
  go_region_with ((go_at_call 45; refine (pick_any R _ _ _ (by first | assumption | exact Rd.alloc (by assumption) _ | exact Rd.below (by assumption) (by assumption) (Nat.le_refl _)) (by omega) (by omega)).mono ?_; rintro e wz ⟨v, rfl, va, vb, hRz, hhz⟩; (try (have vq : v ≤ 11 := (by omega); have vq0 : 0 ≤ v / 2 := (by omega); have vq1 : v / 2 < 6 := (by omega); have vt : v.tdiv 2 = v / 2 := Int.tdiv_eq_ediv_of_nonneg va; have vw : IntKind.i64.wrap (v / 2) = v / 2 := (by rw [IntKind.wrap_i64]; omega))); clear vb; obtain ⟨hcz, hfz⟩ := gcell hhz; have hst := fun b (h : b < _) => Nat.lt_of_lt_of_le h hhz.size; have hzz := hhz.size; (try simp at hzz); (try have hzs := Nat.lt_of_succ_le hzz); have hne : ¬ wz.heap.size = R := (by have := hRz.lt; omega)))
  all_goals go_wp2
  all_goals go_ret
  all_goals exact ⟨_, rfl, Rd.mono (by first | assumption | exact Rd.alloc (by assumption) _ | exact Rd.below (by assumption) (by assumption) (Nat.le_refl _)) (by omega), by (repeat (first | exact gr_refl _ _ | refine gr_drew ?_ | refine gr_alloc ?_ _ | refine gr_trans ?_ (by assumption)))⟩
end Go.Proofs.Ytpogmnkedohdcaa
