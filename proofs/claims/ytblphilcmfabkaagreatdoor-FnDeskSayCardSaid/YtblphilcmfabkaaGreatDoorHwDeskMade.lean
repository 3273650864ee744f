/- Contracts and laws that the statement's proof stands on, one text behind the other. -/
import Derived.Test.YtblphilcmfabkaaGreatDoorAla0c

namespace Go.Proofs.YtblphilcmfabkaaGreatDoor
open Go.RowKit
def MadeBy (p q k a b : Int) (w : World) (e : Ending) (w' : World) : Prop :=
 e = .returned (match madeN (p, q) ⟨k, a, b⟩ with | some r => .tuple #[pr r.1 r.2, .bool (pairB r.1 r.2)] | none => .tuple #[pr p q, .bool false]) ∧ Below w.heap.size w w'
theorem specTurned_yes (p q : Int) (w : World) (h : pairB p q = true) : Calls Tryz.prog 125 #[pr p q] w fun e w' => e = .returned (pr (-p) q) ∧ Below w.heap.size w w' := by
 have := specTurned_any p q w
 rw [turnP, turnQ, if_pos h, if_pos h] at this
 exact this
set_option maxRecDepth 100000 in
set_option maxHeartbeats 4000000 in
theorem specMade_rest (p q k a b : Int) (w : World) (hp : pairB p q = true) (h1 : ¬ (k = 1 ∧ a = 0 ∧ b = 0)) : Calls Tryz.prog 96 #[pr p q, .agg #[.int .i64 k, .int .i64 a, .int .i64 b]] w (MadeBy p q k a b w) := by
 by_cases h0 : k = 0
 · subst h0
   have hm : madeN (p, q) ⟨0, a, b⟩ = some (a, b) := rfl
   unfold MadeBy
   rw [hm]
   clear hm
   have hcall := fun w => specPairOk_any (a) (b) w
   go_enter Tryz.func96, Tryz.ntmps96
   go_wp2_with fail
   go_region_with (go_at_call 49; refine (hcall _).mono ?_; rintro e w1 ⟨rfl, hb1⟩; obtain ⟨hc1, hf1⟩ := bcell hb1; have hz1 := hb1.size; (try simp at hz1))
   all_goals
     go_wp2_with fail
     refine bodyPost_ret (v := .tuple #[pr (a) (b), .bool (pairB (a) (b))]) (by simp [results, Tryz.results96, go_sem]; go_simp) rfl ⟨rfl, ?_⟩
     exact zb
 by_cases h2 : k = 2 ∧ a = 0 ∧ b = 0
 · obtain ⟨rfl, rfl, rfl⟩ := h2
   have hm : madeN (p, q) ⟨2, 0, 0⟩ = some (p + 1, q + 1) := rfl
   unfold MadeBy
   rw [hm]
   clear hm
   have hcall := fun w => specPairOk_any (p + 1) (q + 1) w
   obtain ⟨hp1, hp2⟩ : numB p = true ∧ numB q = true := by simpa [pairB] using hp
   obtain ⟨p1, p2⟩ := numB_true hp1
   obtain ⟨q1, q2⟩ := numB_true hp2
   clear hp1 hp2
   have Wp : IntKind.i64.wrap (p + 1) = p + 1 := by rw [IntKind.wrap_i64]; omega
   have Wq : IntKind.i64.wrap (q + 1) = q + 1 := by rw [IntKind.wrap_i64]; omega
   go_enter Tryz.func96, Tryz.ntmps96
   go_wp2_with fail
   go_region_with (go_at_call 49; refine (hcall _).mono ?_; rintro e w1 ⟨rfl, hb1⟩; obtain ⟨hc1, hf1⟩ := bcell hb1; have hz1 := hb1.size; (try simp at hz1))
   all_goals
     go_wp2_with fail
     refine bodyPost_ret (v := .tuple #[pr (p + 1) (q + 1), .bool (pairB (p + 1) (q + 1))]) (by simp [results, Tryz.results96, go_sem]; go_simp) rfl ⟨rfl, ?_⟩
     exact zb
 by_cases h3 : k = 3 ∧ a = 0 ∧ b = 0
 · obtain ⟨rfl, rfl, rfl⟩ := h3
   have hm : madeN (p, q) ⟨3, 0, 0⟩ = some (p - 1, q - 1) := rfl
   unfold MadeBy
   rw [hm]
   clear hm
   have hcall := fun w => specPairOk_any (p - 1) (q - 1) w
   obtain ⟨hp1, hp2⟩ : numB p = true ∧ numB q = true := by simpa [pairB] using hp
   obtain ⟨p1, p2⟩ := numB_true hp1
   obtain ⟨q1, q2⟩ := numB_true hp2
   clear hp1 hp2
   have Wp : IntKind.i64.wrap (p - 1) = p - 1 := by rw [IntKind.wrap_i64]; omega
   have Wq : IntKind.i64.wrap (q - 1) = q - 1 := by rw [IntKind.wrap_i64]; omega
   go_enter Tryz.func96, Tryz.ntmps96
   go_wp2_with fail
   go_region_with (go_at_call 49; refine (hcall _).mono ?_; rintro e w1 ⟨rfl, hb1⟩; obtain ⟨hc1, hf1⟩ := bcell hb1; have hz1 := hb1.size; (try simp at hz1))
   all_goals
     go_wp2_with fail
     refine bodyPost_ret (v := .tuple #[pr (p - 1) (q - 1), .bool (pairB (p - 1) (q - 1))]) (by simp [results, Tryz.results96, go_sem]; go_simp) rfl ⟨rfl, ?_⟩
     exact zb
 have hm : madeN (p, q) ⟨k, a, b⟩ = none := by
   unfold madeN
   simp only
   rw [if_neg h0]
   split
   · rename_i hab
     rw [if_neg (fun e => h1 ⟨e, hab⟩), if_neg (fun e => h2 ⟨e, hab⟩), if_neg (fun e => h3 ⟨e, hab⟩)]
   · rfl
 unfold MadeBy
 rw [hm]
 clear hm
 go_enter Tryz.func96, Tryz.ntmps96
 go_wp2_with fail
 all_goals
   refine bodyPost_ret (v := .tuple #[pr p q, .bool false]) (by simp [results, Tryz.results96, go_sem]) rfl ⟨rfl, ?_⟩
   exact zb
end Go.Proofs.YtblphilcmfabkaaGreatDoor
