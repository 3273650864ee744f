/- Contracts and laws that the statement's proof stands on, one text behind the other. -/
import Derived.Test.YtblphilcmfabkaaGreatDoorAla2
import Derived.Test.YtblphilcmfabkaaGreatDoorHwTalkAskS

namespace Go.Proofs.YtblphilcmfabkaaGreatDoor
open Go.RowKit
set_option maxHeartbeats 1000000 in
theorem numOr_any (n : Int) (b : Bool) (w : World) (h : b = true → Small n) (ht : PowTab w) : Calls Tryz.prog 146 #[.int .i64 n, .bool b] w fun e w' => e = .returned (.string (toldT n b)) ∧ Below w.heap.size w w' := by
 cases b with
 | false =>
   go_enter Tryz.func146, Tryz.ntmps146
   go_wp2
   go_ret
   exact ⟨rfl, Below.refl _ _⟩
 | true =>
   obtain ⟨h1, h2⟩ := h rfl
   go_enter Tryz.func146, Tryz.ntmps146
   go_wp2_with fail
   refine (itoa_any n zO h2 _ ht).mono ?_
   rintro e w1 ⟨rfl, hb1⟩
   go_wp2
   go_ret
   exact ⟨rfl, hb1⟩
theorem numberT_size {n : Int} (_ : Small n) : (txt (numberT n)).size ≤ 100 := by
 rw [txt_size]
 unfold numberT
 split
 · have := decN_len 20 n.natAbs; simp only [List.length_cons]; omega
 · have := decN_len 20 n.natAbs; omega
set_option maxRecDepth 100000 in
set_option maxHeartbeats 4000000 in
theorem tellWeight_any (p q : Int) (u : Value) (v : Value) (w : World) (ht : PowTab w) : Calls Tryz.prog 112 #[.agg #[.int .i64 p, .int .i64 q, u], v] w fun e w' => e = .returned (.string (toldT (weightV p q) (pairB p q))) ∧ Below w.heap.size w w' := by
 go_enter Tryz.func112, Tryz.ntmps112
 go_wp2_with fail
 refine (implWeight_any p q _).mono ?_
 rintro e w1 ⟨rfl, hb1⟩
 have hB1 : Below w.heap.size w w1 := by exact zb
 go_wp2_with fail
 refine (numOr_any _ _ _ (fun _ => weight_small p q) (ht.below hB1 (Nat.le_refl _))).mono ?_
 rintro e w2 ⟨rfl, hb2⟩
 go_wp2
 go_ret
 exact ⟨rfl, hB1.trans (hb2.mono hB1.size)⟩
set_option maxRecDepth 100000 in
set_option maxHeartbeats 4000000 in
theorem tellFirst_any (p q n : Int) (u : Value) (B C : Nat) (v : Value) (w : World) (hv : IsInts B C w v 1 fun _ => n) (ht : PowTab w) : Calls Tryz.prog 113 #[.agg #[.int .i64 p, .int .i64 q, u], v] w fun e w' => e = .returned (.string (toldT (firstV p q n) (atB p q n))) ∧ Below w.heap.size w w' := by
 obtain ⟨g, off, cap, rfl, hg, hC, hc0⟩ := ints_one hv
 go_enter Tryz.func113, Tryz.ntmps113
 go_wp2_with fail
 refine region_namedD ?_
 intro W hW
 have hBW : Below w.heap.size w W := by
   rw [hW]
   exact zb
 have cp : W.cell? ⟨w.heap.size, 0, none⟩ = some (.int .i64 p) := by rw [hW]; go_simp
 have cq : W.cell? ⟨w.heap.size, 1, none⟩ = some (.int .i64 q) := by rw [hW]; go_simp
 have c0 : W.cell? ⟨g, off, none⟩ = some (.int .i64 n) := (hBW.cell (p := ⟨g, off, none⟩) (by show g < _; omega)).trans hc0
 have hTW := ht.below hBW (Nat.le_refl _)
 clear hW hc0
 obtain ⟨S, hSd⟩ : ∃ S : World → Prop, (fun V => Below W.heap.size W V) = S := ⟨_, rfl⟩
 have hkeep : ∀ V V' : World, S V → Below V.heap.size V V' → S V' := by rw [← hSd]; exact fun V V' h hb => h.trans (hb.mono h.size)
 have gk0 : ∀ iq : KeptBy S, iq.world.cell? ⟨w.heap.size, 0, none⟩ = some (.int .i64 p) := by rw [← hSd]; exact fun iq => cell_belowP iq.ok cp
 have gk1 : ∀ iq : KeptBy S, iq.world.cell? ⟨w.heap.size, 1, none⟩ = some (.int .i64 q) := by rw [← hSd]; exact fun iq => cell_belowP iq.ok cq
 have gk2 : ∀ iq : KeptBy S, iq.world.cell? ⟨g, off, none⟩ = some (.int .i64 n) := by rw [← hSd]; exact fun iq => cell_belowP iq.ok c0
 have hpw : ∀ iq : KeptBy S, PowTab iq.world := by rw [← hSd]; exact fun iq => hTW.below iq.ok (Nat.le_refl _)
 have gkn : Nonempty (KeptBy S) := ⟨⟨W.drew, by rw [← hSd]; exact (Below.refl _ _).drew⟩⟩
 refine wp_region_kept (S := S) (by rw [← hSd]; exact (Below.refl _ _).drew) (by kernel_rfl) (by kernel_rfl) ?_
 repeat (go_big_quiet_step ((first | (go_at_call 148; refine (implFirst_any p q n _).mono ?_; rintro e w' ⟨rfl, hhw⟩; exact ⟨rfl, ⟨w', hkeep _ _ (KeptBy.ok _) hhw⟩, rfl⟩) | (go_at_call 146; refine (numOr_any _ _ _ (fun _ => first_small p q n) (hpw _)).mono ?_; rintro e w' ⟨rfl, hhw⟩; exact ⟨rfl, ⟨w', hkeep _ _ (KeptBy.ok _) hhw⟩, rfl⟩) | fail)))
 refine wpQuiet_nil ?_
 rintro z3 ⟨iz, hwz⟩
 have bz3 : Below W.heap.size W z3 := by
   have this : S z3 := by rw [hwz]; exact iz.ok
   rw [← hSd] at this
   exact this
 clear hwz iz gkn hkeep hSd gk0 gk1 gk2 hpw
 go_wp2
 go_ret
 exact ⟨rfl, hBW.trans (bz3.mono hBW.size)⟩
set_option maxRecDepth 100000 in
set_option maxHeartbeats 4000000 in
theorem tellSecond_any (p q n : Int) (u : Value) (B C : Nat) (v : Value) (w : World) (hv : IsInts B C w v 1 fun _ => n) (ht : PowTab w) : Calls Tryz.prog 114 #[.agg #[.int .i64 p, .int .i64 q, u], v] w fun e w' => e = .returned (.string (toldT (secondV p q n) (atB p q n))) ∧ Below w.heap.size w w' := by
 obtain ⟨g, off, cap, rfl, hg, hC, hc0⟩ := ints_one hv
 go_enter Tryz.func114, Tryz.ntmps114
 go_wp2_with fail
 refine region_namedD ?_
 intro W hW
 have hBW : Below w.heap.size w W := by
   rw [hW]
   exact zb
 have cp : W.cell? ⟨w.heap.size, 0, none⟩ = some (.int .i64 p) := by rw [hW]; go_simp
 have cq : W.cell? ⟨w.heap.size, 1, none⟩ = some (.int .i64 q) := by rw [hW]; go_simp
 have c0 : W.cell? ⟨g, off, none⟩ = some (.int .i64 n) := (hBW.cell (p := ⟨g, off, none⟩) (by show g < _; omega)).trans hc0
 have hTW := ht.below hBW (Nat.le_refl _)
 clear hW hc0
 obtain ⟨S, hSd⟩ : ∃ S : World → Prop, (fun V => Below W.heap.size W V) = S := ⟨_, rfl⟩
 have hkeep : ∀ V V' : World, S V → Below V.heap.size V V' → S V' := by rw [← hSd]; exact fun V V' h hb => h.trans (hb.mono h.size)
 have gk0 : ∀ iq : KeptBy S, iq.world.cell? ⟨w.heap.size, 0, none⟩ = some (.int .i64 p) := by rw [← hSd]; exact fun iq => cell_belowP iq.ok cp
 have gk1 : ∀ iq : KeptBy S, iq.world.cell? ⟨w.heap.size, 1, none⟩ = some (.int .i64 q) := by rw [← hSd]; exact fun iq => cell_belowP iq.ok cq
 have gk2 : ∀ iq : KeptBy S, iq.world.cell? ⟨g, off, none⟩ = some (.int .i64 n) := by rw [← hSd]; exact fun iq => cell_belowP iq.ok c0
 have hpw : ∀ iq : KeptBy S, PowTab iq.world := by rw [← hSd]; exact fun iq => hTW.below iq.ok (Nat.le_refl _)
 have gkn : Nonempty (KeptBy S) := ⟨⟨W.drew, by rw [← hSd]; exact (Below.refl _ _).drew⟩⟩
 refine wp_region_kept (S := S) (by rw [← hSd]; exact (Below.refl _ _).drew) (by kernel_rfl) (by kernel_rfl) ?_
 repeat (go_big_quiet_step ((first | (go_at_call 149; refine (implSecond_any p q n _).mono ?_; rintro e w' ⟨rfl, hhw⟩; exact ⟨rfl, ⟨w', hkeep _ _ (KeptBy.ok _) hhw⟩, rfl⟩) | (go_at_call 146; refine (numOr_any _ _ _ (fun _ => second_small p q n) (hpw _)).mono ?_; rintro e w' ⟨rfl, hhw⟩; exact ⟨rfl, ⟨w', hkeep _ _ (KeptBy.ok _) hhw⟩, rfl⟩) | fail)))
 refine wpQuiet_nil ?_
 rintro z3 ⟨iz, hwz⟩
 have bz3 : Below W.heap.size W z3 := by
   have this : S z3 := by rw [hwz]; exact iz.ok
   rw [← hSd] at this
   exact this
 clear hwz iz gkn hkeep hSd gk0 gk1 gk2 hpw
 go_wp2
 go_ret
 exact ⟨rfl, hBW.trans (bz3.mono hBW.size)⟩
set_option maxRecDepth 100000 in
set_option maxHeartbeats 4000000 in
theorem tellRank_any (p q n : Int) (u : Value) (B C : Nat) (v : Value) (w : World) (hv : IsInts B C w v 1 fun _ => n) (ht : PowTab w) : Calls Tryz.prog 115 #[.agg #[.int .i64 p, .int .i64 q, u], v] w fun e w' => e = .returned (.string (toldT (rankV p q n) (rankB p q n))) ∧ Below w.heap.size w w' := by
 obtain ⟨g, off, cap, rfl, hg, hC, hc0⟩ := ints_one hv
 go_enter Tryz.func115, Tryz.ntmps115
 go_wp2_with fail
 refine region_namedD ?_
 intro W hW
 have hBW : Below w.heap.size w W := by
   rw [hW]
   exact zb
 have cp : W.cell? ⟨w.heap.size, 0, none⟩ = some (.int .i64 p) := by rw [hW]; go_simp
 have cq : W.cell? ⟨w.heap.size, 1, none⟩ = some (.int .i64 q) := by rw [hW]; go_simp
 have c0 : W.cell? ⟨g, off, none⟩ = some (.int .i64 n) := (hBW.cell (p := ⟨g, off, none⟩) (by show g < _; omega)).trans hc0
 have hTW := ht.below hBW (Nat.le_refl _)
 clear hW hc0
 obtain ⟨S, hSd⟩ : ∃ S : World → Prop, (fun V => Below W.heap.size W V) = S := ⟨_, rfl⟩
 have hkeep : ∀ V V' : World, S V → Below V.heap.size V V' → S V' := by rw [← hSd]; exact fun V V' h hb => h.trans (hb.mono h.size)
 have gk0 : ∀ iq : KeptBy S, iq.world.cell? ⟨w.heap.size, 0, none⟩ = some (.int .i64 p) := by rw [← hSd]; exact fun iq => cell_belowP iq.ok cp
 have gk1 : ∀ iq : KeptBy S, iq.world.cell? ⟨w.heap.size, 1, none⟩ = some (.int .i64 q) := by rw [← hSd]; exact fun iq => cell_belowP iq.ok cq
 have gk2 : ∀ iq : KeptBy S, iq.world.cell? ⟨g, off, none⟩ = some (.int .i64 n) := by rw [← hSd]; exact fun iq => cell_belowP iq.ok c0
 have hpw : ∀ iq : KeptBy S, PowTab iq.world := by rw [← hSd]; exact fun iq => hTW.below iq.ok (Nat.le_refl _)
 have gkn : Nonempty (KeptBy S) := ⟨⟨W.drew, by rw [← hSd]; exact (Below.refl _ _).drew⟩⟩
 refine wp_region_kept (S := S) (by rw [← hSd]; exact (Below.refl _ _).drew) (by kernel_rfl) (by kernel_rfl) ?_
 repeat (go_big_quiet_step ((first | (go_at_call 150; refine (implRank_any p q n _).mono ?_; rintro e w' ⟨rfl, hhw⟩; exact ⟨rfl, ⟨w', hkeep _ _ (KeptBy.ok _) hhw⟩, rfl⟩) | (go_at_call 146; refine (numOr_any _ _ _ (fun _ => rank_small p q n) (hpw _)).mono ?_; rintro e w' ⟨rfl, hhw⟩; exact ⟨rfl, ⟨w', hkeep _ _ (KeptBy.ok _) hhw⟩, rfl⟩) | fail)))
 refine wpQuiet_nil ?_
 rintro z3 ⟨iz, hwz⟩
 have bz3 : Below W.heap.size W z3 := by
   have this : S z3 := by rw [hwz]; exact iz.ok
   rw [← hSd] at this
   exact this
 clear hwz iz gkn hkeep hSd gk0 gk1 gk2 hpw
 go_wp2
 go_ret
 exact ⟨rfl, hBW.trans (bz3.mono hBW.size)⟩
set_option maxRecDepth 100000 in
set_option maxHeartbeats 4000000 in
theorem tellPeriod_any (p q n : Int) (u : Value) (B C : Nat) (v : Value) (w : World) (hv : IsInts B C w v 1 fun _ => n) (ht : PowTab w) : Calls Tryz.prog 116 #[.agg #[.int .i64 p, .int .i64 q, u], v] w fun e w' => e = .returned (.string (toldT (periodV p q n) (rankB p q n))) ∧ Below w.heap.size w w' := by
 obtain ⟨g, off, cap, rfl, hg, hC, hc0⟩ := ints_one hv
 go_enter Tryz.func116, Tryz.ntmps116
 go_wp2_with fail
 refine region_namedD ?_
 intro W hW
 have hBW : Below w.heap.size w W := by
   rw [hW]
   exact zb
 have cp : W.cell? ⟨w.heap.size, 0, none⟩ = some (.int .i64 p) := by rw [hW]; go_simp
 have cq : W.cell? ⟨w.heap.size, 1, none⟩ = some (.int .i64 q) := by rw [hW]; go_simp
 have c0 : W.cell? ⟨g, off, none⟩ = some (.int .i64 n) := (hBW.cell (p := ⟨g, off, none⟩) (by show g < _; omega)).trans hc0
 have hTW := ht.below hBW (Nat.le_refl _)
 clear hW hc0
 obtain ⟨S, hSd⟩ : ∃ S : World → Prop, (fun V => Below W.heap.size W V) = S := ⟨_, rfl⟩
 have hkeep : ∀ V V' : World, S V → Below V.heap.size V V' → S V' := by rw [← hSd]; exact fun V V' h hb => h.trans (hb.mono h.size)
 have gk0 : ∀ iq : KeptBy S, iq.world.cell? ⟨w.heap.size, 0, none⟩ = some (.int .i64 p) := by rw [← hSd]; exact fun iq => cell_belowP iq.ok cp
 have gk1 : ∀ iq : KeptBy S, iq.world.cell? ⟨w.heap.size, 1, none⟩ = some (.int .i64 q) := by rw [← hSd]; exact fun iq => cell_belowP iq.ok cq
 have gk2 : ∀ iq : KeptBy S, iq.world.cell? ⟨g, off, none⟩ = some (.int .i64 n) := by rw [← hSd]; exact fun iq => cell_belowP iq.ok c0
 have hpw : ∀ iq : KeptBy S, PowTab iq.world := by rw [← hSd]; exact fun iq => hTW.below iq.ok (Nat.le_refl _)
 have gkn : Nonempty (KeptBy S) := ⟨⟨W.drew, by rw [← hSd]; exact (Below.refl _ _).drew⟩⟩
 refine wp_region_kept (S := S) (by rw [← hSd]; exact (Below.refl _ _).drew) (by kernel_rfl) (by kernel_rfl) ?_
 repeat (go_big_quiet_step ((first | (go_at_call 151; refine (implPeriod_any p q n _).mono ?_; rintro e w' ⟨rfl, hhw⟩; exact ⟨rfl, ⟨w', hkeep _ _ (KeptBy.ok _) hhw⟩, rfl⟩) | (go_at_call 146; refine (numOr_any _ _ _ (fun _ => period_small p q n) (hpw _)).mono ?_; rintro e w' ⟨rfl, hhw⟩; exact ⟨rfl, ⟨w', hkeep _ _ (KeptBy.ok _) hhw⟩, rfl⟩) | fail)))
 refine wpQuiet_nil ?_
 rintro z3 ⟨iz, hwz⟩
 have bz3 : Below W.heap.size W z3 := by
   have this : S z3 := by rw [hwz]; exact iz.ok
   rw [← hSd] at this
   exact this
 clear hwz iz gkn hkeep hSd gk0 gk1 gk2 hpw
 go_wp2
 go_ret
 exact ⟨rfl, hBW.trans (bz3.mono hBW.size)⟩
set_option maxRecDepth 100000 in
set_option maxHeartbeats 4000000 in
theorem tellCircle_any (p q n m : Int) (u : Value) (B C : Nat) (v : Value) (w : World) (hv : IsInts B C w v 2 fun i => if i = 0 then n else m) (ht : PowTab w) : Calls Tryz.prog 120 #[.agg #[.int .i64 p, .int .i64 q, u], v] w fun e w' => e = .returned (.string (toldT (circV n m) (circB n m))) ∧ Below w.heap.size w w' := by
 obtain ⟨g, off, cap, rfl, hg, hC, hc0, hc1⟩ := ints_two hv
 replace hc0 : w.cell? ⟨g, off, none⟩ = some (.int .i64 n) := hc0
 replace hc1 : w.cell? ⟨g, off + 1, none⟩ = some (.int .i64 m) := hc1
 go_enter Tryz.func120, Tryz.ntmps120
 go_wp2_with fail
 refine region_namedD ?_
 intro W hW
 have hBW : Below w.heap.size w W := by
   rw [hW]
   exact zb
 have cp : W.cell? ⟨w.heap.size, 0, none⟩ = some (.int .i64 p) := by rw [hW]; go_simp
 have cq : W.cell? ⟨w.heap.size, 1, none⟩ = some (.int .i64 q) := by rw [hW]; go_simp
 have c0 : W.cell? ⟨g, off, none⟩ = some (.int .i64 n) := (hBW.cell (p := ⟨g, off, none⟩) (by show g < _; omega)).trans hc0
 have c1 : W.cell? ⟨g, off + 1, none⟩ = some (.int .i64 m) := (hBW.cell (p := ⟨g, off + 1, none⟩) (by show g < _; omega)).trans hc1
 have hTW := ht.below hBW (Nat.le_refl _)
 clear hW hc0 hc1
 obtain ⟨S, hSd⟩ : ∃ S : World → Prop, (fun V => Below W.heap.size W V) = S := ⟨_, rfl⟩
 have hkeep : ∀ V V' : World, S V → Below V.heap.size V V' → S V' := by rw [← hSd]; exact fun V V' h hb => h.trans (hb.mono h.size)
 have gk0 : ∀ iq : KeptBy S, iq.world.cell? ⟨w.heap.size, 0, none⟩ = some (.int .i64 p) := by rw [← hSd]; exact fun iq => cell_belowP iq.ok cp
 have gk1 : ∀ iq : KeptBy S, iq.world.cell? ⟨w.heap.size, 1, none⟩ = some (.int .i64 q) := by rw [← hSd]; exact fun iq => cell_belowP iq.ok cq
 have gk2 : ∀ iq : KeptBy S, iq.world.cell? ⟨g, off, none⟩ = some (.int .i64 n) := by rw [← hSd]; exact fun iq => cell_belowP iq.ok c0
 have gk3 : ∀ iq : KeptBy S, iq.world.cell? ⟨g, off + 1, none⟩ = some (.int .i64 m) := by rw [← hSd]; exact fun iq => cell_belowP iq.ok c1
 have hpw : ∀ iq : KeptBy S, PowTab iq.world := by rw [← hSd]; exact fun iq => hTW.below iq.ok (Nat.le_refl _)
 have gkn : Nonempty (KeptBy S) := ⟨⟨W.drew, by rw [← hSd]; exact (Below.refl _ _).drew⟩⟩
 refine wp_region_kept (S := S) (by rw [← hSd]; exact (Below.refl _ _).drew) (by kernel_rfl) (by kernel_rfl) ?_
 repeat (go_big_quiet_step ((first | (go_at_call 156; refine (implCircle_any n m _).mono ?_; rintro e w' ⟨rfl, hhw⟩; exact ⟨rfl, ⟨w', hkeep _ _ (KeptBy.ok _) hhw⟩, rfl⟩) | (go_at_call 146; refine (numOr_any _ _ _ (fun _ => circ_small n m) (hpw _)).mono ?_; rintro e w' ⟨rfl, hhw⟩; exact ⟨rfl, ⟨w', hkeep _ _ (KeptBy.ok _) hhw⟩, rfl⟩) | fail)))
 refine wpQuiet_nil ?_
 rintro z3 ⟨iz, hwz⟩
 have bz3 : Below W.heap.size W z3 := by
   have this : S z3 := by rw [hwz]; exact iz.ok
   rw [← hSd] at this
   exact this
 clear hwz iz gkn hkeep hSd gk0 gk1 gk2 gk3 hpw
 go_wp2
 go_ret
 exact ⟨rfl, hBW.trans (bz3.mono hBW.size)⟩
set_option maxRecDepth 100000 in
set_option maxHeartbeats 4000000 in
theorem tellFar_any (p q n m : Int) (u : Value) (B C : Nat) (v : Value) (w : World) (hv : IsInts B C w v 2 fun i => if i = 0 then n else m) (ht : PowTab w) : Calls Tryz.prog 119 #[.agg #[.int .i64 p, .int .i64 q, u], v] w fun e w' => e = .returned (.string (toldT (farFirstV p q n m) (decide (0 ≤ farFirstV p q n m)))) ∧ Below w.heap.size w w' := by
 obtain ⟨g, off, cap, rfl, hg, hC, hc0, hc1⟩ := ints_two hv
 replace hc0 : w.cell? ⟨g, off, none⟩ = some (.int .i64 n) := hc0
 replace hc1 : w.cell? ⟨g, off + 1, none⟩ = some (.int .i64 m) := hc1
 go_enter Tryz.func119, Tryz.ntmps119
 go_wp2_with fail
 refine region_namedD ?_
 intro W hW
 have hBW : Below w.heap.size w W := by
   rw [hW]
   exact zb
 have cp : W.cell? ⟨w.heap.size, 0, none⟩ = some (.int .i64 p) := by rw [hW]; go_simp
 have cq : W.cell? ⟨w.heap.size, 1, none⟩ = some (.int .i64 q) := by rw [hW]; go_simp
 have c0 : W.cell? ⟨g, off, none⟩ = some (.int .i64 n) := (hBW.cell (p := ⟨g, off, none⟩) (by show g < _; omega)).trans hc0
 have c1 : W.cell? ⟨g, off + 1, none⟩ = some (.int .i64 m) := (hBW.cell (p := ⟨g, off + 1, none⟩) (by show g < _; omega)).trans hc1
 have hTW := ht.below hBW (Nat.le_refl _)
 clear hW hc0 hc1
 obtain ⟨S, hSd⟩ : ∃ S : World → Prop, (fun V => Below W.heap.size W V) = S := ⟨_, rfl⟩
 have hkeep : ∀ V V' : World, S V → Below V.heap.size V V' → S V' := by rw [← hSd]; exact fun V V' h hb => h.trans (hb.mono h.size)
 have gk0 : ∀ iq : KeptBy S, iq.world.cell? ⟨w.heap.size, 0, none⟩ = some (.int .i64 p) := by rw [← hSd]; exact fun iq => cell_belowP iq.ok cp
 have gk1 : ∀ iq : KeptBy S, iq.world.cell? ⟨w.heap.size, 1, none⟩ = some (.int .i64 q) := by rw [← hSd]; exact fun iq => cell_belowP iq.ok cq
 have gk2 : ∀ iq : KeptBy S, iq.world.cell? ⟨g, off, none⟩ = some (.int .i64 n) := by rw [← hSd]; exact fun iq => cell_belowP iq.ok c0
 have gk3 : ∀ iq : KeptBy S, iq.world.cell? ⟨g, off + 1, none⟩ = some (.int .i64 m) := by rw [← hSd]; exact fun iq => cell_belowP iq.ok c1
 have hpw : ∀ iq : KeptBy S, PowTab iq.world := by rw [← hSd]; exact fun iq => hTW.below iq.ok (Nat.le_refl _)
 have gkn : Nonempty (KeptBy S) := ⟨⟨W.drew, by rw [← hSd]; exact (Below.refl _ _).drew⟩⟩
 refine wp_region_kept (S := S) (by rw [← hSd]; exact (Below.refl _ _).drew) (by kernel_rfl) (by kernel_rfl) ?_
 repeat (go_big_quiet_step ((first | (go_at_call 155; refine (implFarFirst_any p q n m _).mono ?_; rintro e w' ⟨rfl, hhw⟩; exact ⟨rfl, ⟨w', hkeep _ _ (KeptBy.ok _) hhw⟩, rfl⟩) | fail)))
 refine wpQuiet_nil ?_
 rintro z3 ⟨iz, hwz⟩
 have bz3 : Below W.heap.size W z3 := by
   have this : S z3 := by rw [hwz]; exact iz.ok
   rw [← hSd] at this
   exact this
 clear hwz iz gkn hkeep hSd gk0 gk1 gk2 gk3 hpw
 have hBZ := Lib.hid (hBW.trans (bz3.mono hBW.size))
 go_wp2_with fail
 refine (numOr_any (farFirstV p q n m) _ _ (fun _ => far_small p q n m) (ht.below hBZ.out (Nat.le_refl _))).mono ?_
 rintro e w4 ⟨rfl, hb4⟩
 go_wp2
 go_ret
 exact ⟨rfl, hBZ.out.trans (hb4.mono hBZ.out.size)⟩
set_option maxRecDepth 100000 in
set_option maxHeartbeats 4000000 in
theorem tellPair_any (p q : Int) (u : Value) (v : Value) (w : World) (ht : PowTab w) (hp : Small p) (hq : Small q) : Calls Tryz.prog 111 #[.agg #[.int .i64 p, .int .i64 q, u], v] w fun e w' => e = .returned (.string (pairT p q)) ∧ Below w.heap.size w w' := by
 have s1 := numberT_size hp
 have s2 := numberT_size hq
 have itoa_p := fun W hW => itoa_any p (by have := hp.1; omega) hp.2 W hW
 have itoa_q := fun W hW => itoa_any q (by have := hq.1; omega) hq.2 W hW
 have HV := Lib.hid (show pairT p q = (txt (numberT p) ++ ⟨#[44]⟩) ++ txt (numberT q) from rfl)
 obtain ⟨tp, hp'⟩ : ∃ t, txt (numberT p) = t := ⟨_, rfl⟩
 obtain ⟨tq, hq'⟩ : ∃ t, txt (numberT q) = t := ⟨_, rfl⟩
 rw [hp'] at HV itoa_p s1
 rw [hq'] at HV itoa_q s2
 have s3 : (tp ++ (⟨#[44]⟩ : ByteArray)).size = tp.size + 1 := by rw [ByteArray.size_append]; rfl
 have o1 : ¬ 9223372036854775807 < tp.size + 1 := by omega
 have o2 : ¬ 9223372036854775807 < tp.size + 1 + tq.size := by omega
 clear hp' hq'
 go_enter Tryz.func111, Tryz.ntmps111
 go_wp2_with fail
 refine region_namedD ?_
 intro W hW
 have hBW : Below w.heap.size w W := by
   rw [hW]
   exact zb
 have cp : W.cell? ⟨w.heap.size, 0, none⟩ = some (.int .i64 p) := by rw [hW]; go_simp
 have cq : W.cell? ⟨w.heap.size, 1, none⟩ = some (.int .i64 q) := by rw [hW]; go_simp
 have hTW := ht.below hBW (Nat.le_refl _)
 clear hW
 obtain ⟨S, hSd⟩ : ∃ S : World → Prop, (fun V => Below W.heap.size W V) = S := ⟨_, rfl⟩
 have hkeep : ∀ V V' : World, S V → Below V.heap.size V V' → S V' := by rw [← hSd]; exact fun V V' h hb => h.trans (hb.mono h.size)
 have gk0 : ∀ iq : KeptBy S, iq.world.cell? ⟨w.heap.size, 0, none⟩ = some (.int .i64 p) := by rw [← hSd]; exact fun iq => cell_belowP iq.ok cp
 have gk1 : ∀ iq : KeptBy S, iq.world.cell? ⟨w.heap.size, 1, none⟩ = some (.int .i64 q) := by rw [← hSd]; exact fun iq => cell_belowP iq.ok cq
 have hpw : ∀ iq : KeptBy S, PowTab iq.world := by rw [← hSd]; exact fun iq => hTW.below iq.ok (Nat.le_refl _)
 have gkn : Nonempty (KeptBy S) := ⟨⟨W.drew, by rw [← hSd]; exact (Below.refl _ _).drew⟩⟩
 refine wp_region_kept (S := S) (by rw [← hSd]; exact (Below.refl _ _).drew) (by kernel_rfl) (by kernel_rfl) ?_
 repeat (go_big_quiet_step ((first | (go_at_call 55; refine (itoa_p _ (hpw _)).mono ?_; rintro e w' ⟨rfl, hhw⟩; exact ⟨rfl, ⟨w', hkeep _ _ (KeptBy.ok _) hhw⟩, rfl⟩) | (go_at_call 55; refine (itoa_q _ (hpw _)).mono ?_; rintro e w' ⟨rfl, hhw⟩; exact ⟨rfl, ⟨w', hkeep _ _ (KeptBy.ok _) hhw⟩, rfl⟩) | fail)))
 refine wpQuiet_nil ?_
 rintro z3 ⟨iz, hwz⟩
 have bz3 : Below W.heap.size W z3 := by
   have this : S z3 := by rw [hwz]; exact iz.ok
   rw [← hSd] at this
   exact this
 clear hwz iz gkn hkeep hSd gk0 gk1 hpw
 go_wp2
 go_ret
 exact ⟨by rw [HV.out]; rfl, hBW.trans (bz3.mono hBW.size)⟩
theorem passFirst_isT (p q l : Int) (c : Bool) (w : World) (h : passFirstB p q l = c) : Calls Tryz.prog 152 #[pr p q, .int .i64 l] w fun e w' => e = .returned (.bool c) ∧ Below w.heap.size w w' := by rw [← h]; exact implPassFirst_any p q l w
theorem passSecond_isT (p q l : Int) (c : Bool) (w : World) (h : passSecondB p q l = c) : Calls Tryz.prog 153 #[pr p q, .int .i64 l] w fun e w' => e = .returned (.bool c) ∧ Below w.heap.size w w' := by rw [← h]; exact implPassSecond_any p q l w
set_option maxRecDepth 100000 in
set_option maxHeartbeats 4000000 in
theorem tellPasses_any (p q n : Int) (u : Value) (B C : Nat) (v : Value) (w : World) (hv : IsInts B C w v 1 fun _ => n) (ht : PowTab w) : Calls Tryz.prog 117 #[.agg #[.int .i64 p, .int .i64 q, u], v] w fun e w' => e = .returned (.string (yesT (passFirstB p q n && passSecondB p q n))) ∧ Below w.heap.size w w' := by
 obtain ⟨g, off, cap, rfl, hg, hC, hc0⟩ := ints_one hv
 cases hb : passFirstB p q n with
 | true =>
   cases hb2 : passSecondB p q n with
   | true =>
     have hp1 := fun W => passFirst_isT p q n true W hb
     have hp2 := fun W => passSecond_isT p q n true W hb2
     clear hb hb2
     go_enter Tryz.func117, Tryz.ntmps117
     go_wp2_with fail
     refine region_namedD ?_
     intro W hW
     have hBW : Below w.heap.size w W := by
       rw [hW]
       exact zb
     have cp : W.cell? ⟨w.heap.size, 0, none⟩ = some (.int .i64 p) := by rw [hW]; go_simp
     have cq : W.cell? ⟨w.heap.size, 1, none⟩ = some (.int .i64 q) := by rw [hW]; go_simp
     have c0 : W.cell? ⟨g, off, none⟩ = some (.int .i64 n) := (hBW.cell (p := ⟨g, off, none⟩) (by show g < _; omega)).trans hc0
     have hTW := ht.below hBW (Nat.le_refl _)
     clear hW hc0
     obtain ⟨S, hSd⟩ : ∃ S : World → Prop, (fun V => Below W.heap.size W V) = S := ⟨_, rfl⟩
     have hkeep : ∀ V V' : World, S V → Below V.heap.size V V' → S V' := by rw [← hSd]; exact fun V V' h hb => h.trans (hb.mono h.size)
     have gk0 : ∀ iq : KeptBy S, iq.world.cell? ⟨w.heap.size, 0, none⟩ = some (.int .i64 p) := by rw [← hSd]; exact fun iq => cell_belowP iq.ok cp
     have gk1 : ∀ iq : KeptBy S, iq.world.cell? ⟨w.heap.size, 1, none⟩ = some (.int .i64 q) := by rw [← hSd]; exact fun iq => cell_belowP iq.ok cq
     have gk2 : ∀ iq : KeptBy S, iq.world.cell? ⟨g, off, none⟩ = some (.int .i64 n) := by rw [← hSd]; exact fun iq => cell_belowP iq.ok c0
     have hpw : ∀ iq : KeptBy S, PowTab iq.world := by rw [← hSd]; exact fun iq => hTW.below iq.ok (Nat.le_refl _)
     have gkn : Nonempty (KeptBy S) := ⟨⟨W.drew, by rw [← hSd]; exact (Below.refl _ _).drew⟩⟩
     refine wp_region_kept (S := S) (by rw [← hSd]; exact (Below.refl _ _).drew) (by kernel_rfl) (by kernel_rfl) ?_
     repeat (go_big_quiet_step ((first | (go_at_call 152; refine (hp1 _).mono ?_; rintro e w' ⟨rfl, hhw⟩; exact ⟨rfl, ⟨w', hkeep _ _ (KeptBy.ok _) hhw⟩, rfl⟩) | (go_at_call 153; refine (hp2 _).mono ?_; rintro e w' ⟨rfl, hhw⟩; exact ⟨rfl, ⟨w', hkeep _ _ (KeptBy.ok _) hhw⟩, rfl⟩) | fail)))
     refine wpQuiet_nil ?_
     rintro z3 ⟨iz, hwz⟩
     have bz3 : Below W.heap.size W z3 := by
       have this : S z3 := by rw [hwz]; exact iz.ok
       rw [← hSd] at this
       exact this
     clear hwz iz gkn hkeep hSd gk0 gk1 gk2 hpw
     go_wp2
     go_ret
     exact ⟨rfl, hBW.trans (bz3.mono hBW.size)⟩
   | false =>
     have hp1 := fun W => passFirst_isT p q n true W hb
     have hp2 := fun W => passSecond_isT p q n false W hb2
     clear hb hb2
     go_enter Tryz.func117, Tryz.ntmps117
     go_wp2_with fail
     refine region_namedD ?_
     intro W hW
     have hBW : Below w.heap.size w W := by
       rw [hW]
       exact zb
     have cp : W.cell? ⟨w.heap.size, 0, none⟩ = some (.int .i64 p) := by rw [hW]; go_simp
     have cq : W.cell? ⟨w.heap.size, 1, none⟩ = some (.int .i64 q) := by rw [hW]; go_simp
     have c0 : W.cell? ⟨g, off, none⟩ = some (.int .i64 n) := (hBW.cell (p := ⟨g, off, none⟩) (by show g < _; omega)).trans hc0
     have hTW := ht.below hBW (Nat.le_refl _)
     clear hW hc0
     obtain ⟨S, hSd⟩ : ∃ S : World → Prop, (fun V => Below W.heap.size W V) = S := ⟨_, rfl⟩
     have hkeep : ∀ V V' : World, S V → Below V.heap.size V V' → S V' := by rw [← hSd]; exact fun V V' h hb => h.trans (hb.mono h.size)
     have gk0 : ∀ iq : KeptBy S, iq.world.cell? ⟨w.heap.size, 0, none⟩ = some (.int .i64 p) := by rw [← hSd]; exact fun iq => cell_belowP iq.ok cp
     have gk1 : ∀ iq : KeptBy S, iq.world.cell? ⟨w.heap.size, 1, none⟩ = some (.int .i64 q) := by rw [← hSd]; exact fun iq => cell_belowP iq.ok cq
     have gk2 : ∀ iq : KeptBy S, iq.world.cell? ⟨g, off, none⟩ = some (.int .i64 n) := by rw [← hSd]; exact fun iq => cell_belowP iq.ok c0
     have hpw : ∀ iq : KeptBy S, PowTab iq.world := by rw [← hSd]; exact fun iq => hTW.below iq.ok (Nat.le_refl _)
     have gkn : Nonempty (KeptBy S) := ⟨⟨W.drew, by rw [← hSd]; exact (Below.refl _ _).drew⟩⟩
     refine wp_region_kept (S := S) (by rw [← hSd]; exact (Below.refl _ _).drew) (by kernel_rfl) (by kernel_rfl) ?_
     repeat (go_big_quiet_step ((first | (go_at_call 152; refine (hp1 _).mono ?_; rintro e w' ⟨rfl, hhw⟩; exact ⟨rfl, ⟨w', hkeep _ _ (KeptBy.ok _) hhw⟩, rfl⟩) | (go_at_call 153; refine (hp2 _).mono ?_; rintro e w' ⟨rfl, hhw⟩; exact ⟨rfl, ⟨w', hkeep _ _ (KeptBy.ok _) hhw⟩, rfl⟩) | fail)))
     refine wpQuiet_nil ?_
     rintro z3 ⟨iz, hwz⟩
     have bz3 : Below W.heap.size W z3 := by
       have this : S z3 := by rw [hwz]; exact iz.ok
       rw [← hSd] at this
       exact this
     clear hwz iz gkn hkeep hSd gk0 gk1 gk2 hpw
     go_wp2
     go_ret
     exact ⟨rfl, hBW.trans (bz3.mono hBW.size)⟩
 | false =>
   cases hb2 : passSecondB p q n with
   | true =>
     have hp1 := fun W => passFirst_isT p q n false W hb
     have hp2 := fun W => passSecond_isT p q n true W hb2
     clear hb hb2
     go_enter Tryz.func117, Tryz.ntmps117
     go_wp2_with fail
     refine region_namedD ?_
     intro W hW
     have hBW : Below w.heap.size w W := by
       rw [hW]
       exact zb
     have cp : W.cell? ⟨w.heap.size, 0, none⟩ = some (.int .i64 p) := by rw [hW]; go_simp
     have cq : W.cell? ⟨w.heap.size, 1, none⟩ = some (.int .i64 q) := by rw [hW]; go_simp
     have c0 : W.cell? ⟨g, off, none⟩ = some (.int .i64 n) := (hBW.cell (p := ⟨g, off, none⟩) (by show g < _; omega)).trans hc0
     have hTW := ht.below hBW (Nat.le_refl _)
     clear hW hc0
     obtain ⟨S, hSd⟩ : ∃ S : World → Prop, (fun V => Below W.heap.size W V) = S := ⟨_, rfl⟩
     have hkeep : ∀ V V' : World, S V → Below V.heap.size V V' → S V' := by rw [← hSd]; exact fun V V' h hb => h.trans (hb.mono h.size)
     have gk0 : ∀ iq : KeptBy S, iq.world.cell? ⟨w.heap.size, 0, none⟩ = some (.int .i64 p) := by rw [← hSd]; exact fun iq => cell_belowP iq.ok cp
     have gk1 : ∀ iq : KeptBy S, iq.world.cell? ⟨w.heap.size, 1, none⟩ = some (.int .i64 q) := by rw [← hSd]; exact fun iq => cell_belowP iq.ok cq
     have gk2 : ∀ iq : KeptBy S, iq.world.cell? ⟨g, off, none⟩ = some (.int .i64 n) := by rw [← hSd]; exact fun iq => cell_belowP iq.ok c0
     have hpw : ∀ iq : KeptBy S, PowTab iq.world := by rw [← hSd]; exact fun iq => hTW.below iq.ok (Nat.le_refl _)
     have gkn : Nonempty (KeptBy S) := ⟨⟨W.drew, by rw [← hSd]; exact (Below.refl _ _).drew⟩⟩
     refine wp_region_kept (S := S) (by rw [← hSd]; exact (Below.refl _ _).drew) (by kernel_rfl) (by kernel_rfl) ?_
     repeat (go_big_quiet_step ((first | (go_at_call 152; refine (hp1 _).mono ?_; rintro e w' ⟨rfl, hhw⟩; exact ⟨rfl, ⟨w', hkeep _ _ (KeptBy.ok _) hhw⟩, rfl⟩) | (go_at_call 153; refine (hp2 _).mono ?_; rintro e w' ⟨rfl, hhw⟩; exact ⟨rfl, ⟨w', hkeep _ _ (KeptBy.ok _) hhw⟩, rfl⟩) | fail)))
     refine wpQuiet_nil ?_
     rintro z3 ⟨iz, hwz⟩
     have bz3 : Below W.heap.size W z3 := by
       have this : S z3 := by rw [hwz]; exact iz.ok
       rw [← hSd] at this
       exact this
     clear hwz iz gkn hkeep hSd gk0 gk1 gk2 hpw
     go_wp2
     go_ret
     exact ⟨rfl, hBW.trans (bz3.mono hBW.size)⟩
   | false =>
     have hp1 := fun W => passFirst_isT p q n false W hb
     have hp2 := fun W => passSecond_isT p q n false W hb2
     clear hb hb2
     go_enter Tryz.func117, Tryz.ntmps117
     go_wp2_with fail
     refine region_namedD ?_
     intro W hW
     have hBW : Below w.heap.size w W := by
       rw [hW]
       exact zb
     have cp : W.cell? ⟨w.heap.size, 0, none⟩ = some (.int .i64 p) := by rw [hW]; go_simp
     have cq : W.cell? ⟨w.heap.size, 1, none⟩ = some (.int .i64 q) := by rw [hW]; go_simp
     have c0 : W.cell? ⟨g, off, none⟩ = some (.int .i64 n) := (hBW.cell (p := ⟨g, off, none⟩) (by show g < _; omega)).trans hc0
     have hTW := ht.below hBW (Nat.le_refl _)
     clear hW hc0
     obtain ⟨S, hSd⟩ : ∃ S : World → Prop, (fun V => Below W.heap.size W V) = S := ⟨_, rfl⟩
     have hkeep : ∀ V V' : World, S V → Below V.heap.size V V' → S V' := by rw [← hSd]; exact fun V V' h hb => h.trans (hb.mono h.size)
     have gk0 : ∀ iq : KeptBy S, iq.world.cell? ⟨w.heap.size, 0, none⟩ = some (.int .i64 p) := by rw [← hSd]; exact fun iq => cell_belowP iq.ok cp
     have gk1 : ∀ iq : KeptBy S, iq.world.cell? ⟨w.heap.size, 1, none⟩ = some (.int .i64 q) := by rw [← hSd]; exact fun iq => cell_belowP iq.ok cq
     have gk2 : ∀ iq : KeptBy S, iq.world.cell? ⟨g, off, none⟩ = some (.int .i64 n) := by rw [← hSd]; exact fun iq => cell_belowP iq.ok c0
     have hpw : ∀ iq : KeptBy S, PowTab iq.world := by rw [← hSd]; exact fun iq => hTW.below iq.ok (Nat.le_refl _)
     have gkn : Nonempty (KeptBy S) := ⟨⟨W.drew, by rw [← hSd]; exact (Below.refl _ _).drew⟩⟩
     refine wp_region_kept (S := S) (by rw [← hSd]; exact (Below.refl _ _).drew) (by kernel_rfl) (by kernel_rfl) ?_
     repeat (go_big_quiet_step ((first | (go_at_call 152; refine (hp1 _).mono ?_; rintro e w' ⟨rfl, hhw⟩; exact ⟨rfl, ⟨w', hkeep _ _ (KeptBy.ok _) hhw⟩, rfl⟩) | (go_at_call 153; refine (hp2 _).mono ?_; rintro e w' ⟨rfl, hhw⟩; exact ⟨rfl, ⟨w', hkeep _ _ (KeptBy.ok _) hhw⟩, rfl⟩) | fail)))
     refine wpQuiet_nil ?_
     rintro z3 ⟨iz, hwz⟩
     have bz3 : Below W.heap.size W z3 := by
       have this : S z3 := by rw [hwz]; exact iz.ok
       rw [← hSd] at this
       exact this
     clear hwz iz gkn hkeep hSd gk0 gk1 gk2 hpw
     go_wp2
     go_ret
     exact ⟨rfl, hBW.trans (bz3.mono hBW.size)⟩
theorem writtenT_ne : ((List.range 10001).all fun n => !(writtenT n).data.toList.isEmpty) = true := by decide +kernel
theorem writ_none {n : Int} (h0 : 0 ≤ n) (h : (writtenV n).toList.isEmpty = true) : writT n = noneT := by
 unfold writT
 split
 · rename_i hn
   exfalso
   have hi : inB n 0 10000 = true := inB_mk h0 hn
   rw [writtenV, if_pos hi, bl_toList] at h
   have := List.all_eq_true.1 writtenT_ne n.toNat (List.mem_range.2 zO)
   rw [h] at this
   cases this
 · rfl
theorem writ_some {n : Int} (h : (writtenV n).toList.isEmpty = false) : writT n = writtenV n := by
 unfold writT
 split
 · rfl
 · rename_i hn
   rw [writtenV_no (inB_no (.inr zO)), bl_toList] at h
   exact absurd h zd
set_option maxRecDepth 100000 in
set_option maxHeartbeats 4000000 in
theorem tellWritten_any (p q n : Int) (u : Value) (B C : Nat) (v : Value) (w : World) (hv : IsInts B C w v 1 fun _ => n) (h0 : 0 ≤ n) : Calls Tryz.prog 118 #[.agg #[.int .i64 p, .int .i64 q, u], v] w fun e w' => e = .returned (.string (writT n)) ∧ Below w.heap.size w w' := by
 obtain ⟨g, off, cap, rfl, hg, hC, hc0⟩ := ints_one hv
 have hgw : g < w.heap.size := by omega
 cases hw : (writtenV n).toList.isEmpty with
 | true =>
   have HW := Lib.hid (show writT n = noneT from writ_none h0 hw)
   go_enter Tryz.func118, Tryz.ntmps118
   have d0 : ∀ o, (w.alloc o).cell? ⟨g, off, none⟩ = some (.int .i64 n) := fun o => cell_alloc_is o hc0
   go_wp2_with fail
   refine (implWritten_any n _).mono ?_
   rintro e w4 ⟨rfl, hb4⟩
   go_wp2
   go_ret
   exact ⟨by rw [HW.out]; rfl, (show Below w.heap.size w w4 by exact zb)⟩
 | false =>
   have HW := Lib.hid (show writT n = writtenV n from writ_some hw)
   go_enter Tryz.func118, Tryz.ntmps118
   have d0 : ∀ o, (w.alloc o).cell? ⟨g, off, none⟩ = some (.int .i64 n) := fun o => cell_alloc_is o hc0
   go_wp2_with fail
   refine (implWritten_any n _).mono ?_
   rintro e w4 ⟨rfl, hb4⟩
   go_wp2
   go_ret
   exact ⟨by rw [HW.out]; rfl, (show Below w.heap.size w w4 by exact zb)⟩
end Go.Proofs.YtblphilcmfabkaaGreatDoor
