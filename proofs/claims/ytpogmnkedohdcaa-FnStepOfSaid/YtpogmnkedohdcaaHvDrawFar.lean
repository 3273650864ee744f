/- Contracts that the statement's proof stands on. -/
import Derived.Test.YtpogmnkedohdcaaAll0b

namespace Go.Proofs.Ytpogmnkedohdcaa
open Go.RowKit
set_option maxRecDepth 100000 in
set_option maxHeartbeats 8000000 in
theorem l20Far_any (R k : Nat) (w : World) (h : Rd w R k) (hk : k ≤ 1000000) :
    Calls Try.prog 46 #[.pointer (some ⟨R, 0, none⟩)] w (NumberDrawn w R k 7) := by
  have hRlt := h.lt
  have hsel := four_at
  go_enter Try.func46, Try.ntmps46
  go_wp2_with fail
  go_region_with ((go_at_call 45; refine (pick_any R _ _ _ (by first | assumption | exact Rd.alloc (by assumption) _ | exact Rd.below (by assumption) (by assumption) (Nat.le_refl _)) (by omega) (by omega)).mono ?_; rintro e wz ⟨v, rfl, va, vb, hRz, hhz⟩; (try (have vq : v ≤ 7 := (by omega); have vq0 : 0 ≤ v / 2 := (by omega); have vq1 : v / 2 < 4 := (by omega); have vt : v.tdiv 2 = v / 2 := Int.tdiv_eq_ediv_of_nonneg va; have vw : IntKind.i64.wrap (v / 2) = v / 2 := (by rw [IntKind.wrap_i64]; omega))); clear vb; obtain ⟨hcz, hfz⟩ := gcell hhz; have hst := fun b (h : b < _) => Nat.lt_of_lt_of_le h hhz.size; have hzz := hhz.size; (try simp at hzz); (try have hzs := Nat.lt_of_succ_le hzz); have hne : ¬ wz.heap.size = R := (by have := hRz.lt; omega)))
  all_goals go_wp2
  all_goals go_ret
  all_goals exact ⟨_, rfl, Rd.mono (by first | assumption | exact Rd.alloc (by assumption) _ | exact Rd.below (by assumption) (by assumption) (Nat.le_refl _)) (by omega), by (repeat (first | exact gr_refl _ _ | refine gr_drew ?_ | refine gr_alloc ?_ _ | refine gr_trans ?_ (by assumption)))⟩
end Go.Proofs.Ytpogmnkedohdcaa
