/- Contracts and laws that the statement's proof stands on, one text behind the other. -/
import Derived.Test.YtblphilcmfabkaaGreatDoorAla1

namespace Go.Proofs.YtblphilcmfabkaaGreatDoor
def jacF : Nat → Nat → Nat → Int
 | 0, _, _ => 0
 | f + 1, a, b => if a = 0 then (if 1 < b then 0 else 1)
   else if a % 2 = 0 then (if b % 8 = 3 ∨ b % 8 = 5 then -jacF f (a / 2) b else jacF f (a / 2) b)
   else (if a % 4 = 3 ∧ b % 4 = 3 then -jacF f (b % a) a else jacF f (b % a) a)
theorem jacF_fuel : ∀ (f g a b : Nat), a < f → a < g → jacF f a b = jacF g a b
 | 0, _, _, _, h, _ => by omega
 | f + 1, 0, _, _, _, h => by omega
 | f + 1, g + 1, a, b, h1, h2 => by
   by_cases h0 : a = 0
   · simp only [jacF, if_pos h0]
   · have e1 := jacF_fuel f g (a / 2) b zO zO
     have hm : b % a < a := Nat.mod_lt _ zO
     have e2 := jacF_fuel f g (b % a) a zO zO
     simp only [jacF, if_neg h0, e1, e2]
def jac (a b : Nat) : Int := jacF (a + 1) a b
theorem jac_zero (b : Nat) : jac 0 b = if 1 < b then 0 else 1 := rfl
theorem jac_even {a : Nat} (b : Nat) (h0 : a ≠ 0) (h2 : a % 2 = 0) : jac a b = (if b % 8 = 3 ∨ b % 8 = 5 then -1 else 1) * jac (a / 2) b := by
 have e : jacF a (a / 2) b = jac (a / 2) b := jacF_fuel _ _ _ _ zO zO
 rw [jac, jacF, if_neg h0, if_pos h2, e]
 split <;> omega
theorem jac_odd {a : Nat} (b : Nat) (h2 : a % 2 ≠ 0) : jac a b = (if a % 4 = 3 ∧ b % 4 = 3 then -1 else 1) * jac (b % a) a := by
 have hm : b % a < a := Nat.mod_lt _ zO
 have e : jacF a (b % a) a = jac (b % a) a := jacF_fuel _ _ _ _ zO zO
 rw [jac, jacF, if_neg zO, if_neg h2, e]
 split <;> omega
end Go.Proofs.YtblphilcmfabkaaGreatDoor
