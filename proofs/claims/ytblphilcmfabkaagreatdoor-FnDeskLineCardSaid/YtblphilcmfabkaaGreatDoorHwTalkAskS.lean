/- Contracts and laws that the statement's proof stands on, one text behind the other. -/
import Derived.Test.YtblphilcmfabkaaGreatDoorAla2

namespace Go.Proofs.YtblphilcmfabkaaGreatDoor
open Go.RowKit
theorem ints_one {B C : Nat} {w : World} {v : Value} {n : Int} (h : IsInts B C w v 1 fun _ => n) : ∃ g off cap, v = .slice (some ⟨g, off, none⟩) 1 cap ∧ g < C ∧ C ≤ w.heap.size ∧ w.cell? ⟨g, off, none⟩ = some (.int .i64 n) := by
 obtain ⟨a, cap, rfl, hC, hs⟩ := h
 rcases hs with hs | ⟨g, off, rfl, _, h2, hc, _⟩
 · cases hs
 · exact ⟨g, off, cap, rfl, h2, hC, hc 0 zd⟩
theorem ints_two {B C : Nat} {w : World} {v : Value} {f : Nat → Int} (h : IsInts B C w v 2 f) : ∃ g off cap, v = .slice (some ⟨g, off, none⟩) 2 cap ∧ g < C ∧ C ≤ w.heap.size ∧ w.cell? ⟨g, off, none⟩ = some (.int .i64 (f 0)) ∧ w.cell? ⟨g, off + 1, none⟩ = some (.int .i64 (f 1)) := by
 obtain ⟨a, cap, rfl, hC, hs⟩ := h
 rcases hs with hs | ⟨g, off, rfl, _, h2, hc, _⟩
 · cases hs
 · exact ⟨g, off, cap, rfl, h2, hC, hc 0 zd, hc 1 zd⟩
set_option maxHeartbeats 1000000 in
theorem told_any (n : Int) (b : Bool) (w : World) (h : b = true → Small n) : Calls Tryz.prog 65 #[.int .i64 n, .bool b] w fun e w' => e = .returned (.string (toldT n b)) ∧ Below w.heap.size w w' := by
 cases b with
 | false =>
   go_enter Tryz.func65, Tryz.ntmps65
   go_wp2
   go_ret
   exact ⟨rfl, Below.refl _ _⟩
 | true =>
   obtain ⟨h1, h2⟩ := h rfl
   go_enter Tryz.func65, Tryz.ntmps65
   go_wp2_with fail
   refine (number_any n _ h1 h2).mono ?_
   rintro e w1 ⟨rfl, hb1⟩
   go_wp2
   go_ret
   exact ⟨rfl, hb1⟩
set_option maxHeartbeats 1000000 in
theorem yes_any (b : Bool) (w : World) : Calls Tryz.prog 101 #[.bool b] w fun e w' => e = .returned (.string (yesT b)) ∧ Below w.heap.size w w' := by
 cases b <;>
 · go_enter Tryz.func101, Tryz.ntmps101
   go_wp2
   go_ret
   exact ⟨rfl, Below.refl _ _⟩
set_option maxRecDepth 100000 in
set_option maxHeartbeats 4000000 in
theorem ask_first (p q n : Int) (wd : ByteArray) (hw : wd.toList = [102, 105, 114, 115, 116]) (B C : Nat) (v : Value) (w : World) (hv : IsInts B C w v 1 fun _ => n) : Calls Tryz.prog 69 #[pr p q, .string wd, v] w fun e w' => e = .returned (.string (toldT (firstV p q n) (atB p q n))) ∧ Below w.heap.size w w' := by
 obtain ⟨g, off, cap, rfl, hg, hC, hc0⟩ := ints_one hv
 go_enter Tryz.func69, Tryz.ntmps69
 go_wp2_with fail
 refine region_namedD ?_
 intro W hW
 have hBW : Below w.heap.size w W := by
   rw [hW]
   exact zb
 have cp : W.cell? ⟨w.heap.size, 0, none⟩ = some (.int .i64 p) := by rw [hW]; go_simp
 have cq : W.cell? ⟨w.heap.size, 1, none⟩ = some (.int .i64 q) := by rw [hW]; go_simp
 have c0 : W.cell? ⟨g, off, none⟩ = some (.int .i64 n) := (hBW.cell (p := ⟨g, off, none⟩) (by show g < _; omega)).trans hc0
 clear hW hc0
 obtain ⟨S, hSd⟩ : ∃ S : World → Prop, (fun V => Below W.heap.size W V) = S := ⟨_, rfl⟩
 have hkeep : ∀ V V' : World, S V → Below V.heap.size V V' → S V' := by rw [← hSd]; exact fun V V' h hb => h.trans (hb.mono h.size)
 have gk0 : ∀ iq : KeptBy S, iq.world.cell? ⟨w.heap.size, 0, none⟩ = some (.int .i64 p) := by rw [← hSd]; exact fun iq => cell_belowP iq.ok cp
 have gk1 : ∀ iq : KeptBy S, iq.world.cell? ⟨w.heap.size, 1, none⟩ = some (.int .i64 q) := by rw [← hSd]; exact fun iq => cell_belowP iq.ok cq
 have gk2 : ∀ iq : KeptBy S, iq.world.cell? ⟨g, off, none⟩ = some (.int .i64 n) := by rw [← hSd]; exact fun iq => cell_belowP iq.ok c0
 have gkn : Nonempty (KeptBy S) := ⟨⟨W.drew, by rw [← hSd]; exact (Below.refl _ _).drew⟩⟩
 refine wp_region_kept (S := S) (by rw [← hSd]; exact (Below.refl _ _).drew) (by kernel_rfl) (by kernel_rfl) ?_
 repeat (go_big_quiet_step ((first | (go_at_call 97; refine (specFirst_any p q n _).mono ?_; rintro e w' ⟨rfl, hhw⟩; exact ⟨rfl, ⟨w', hkeep _ _ (KeptBy.ok _) hhw⟩, rfl⟩) | (go_at_call 65; refine (told_any _ _ _ (fun _ => first_small p q n)).mono ?_; rintro e w' ⟨rfl, hhw⟩; exact ⟨rfl, ⟨w', hkeep _ _ (KeptBy.ok _) hhw⟩, rfl⟩) | fail)))
 refine wpQuiet_nil ?_
 rintro z3 ⟨iz, hwz⟩
 have bz3 : Below W.heap.size W z3 := by
   have this : S z3 := by rw [hwz]; exact iz.ok
   rw [← hSd] at this
   exact this
 clear hwz iz gkn hkeep hSd gk0 gk1 gk2
 go_wp2
 go_ret
 exact ⟨rfl, hBW.trans (bz3.mono hBW.size)⟩
set_option maxRecDepth 100000 in
set_option maxHeartbeats 4000000 in
theorem ask_second (p q n : Int) (wd : ByteArray) (hw : wd.toList = [115, 101, 99, 111, 110, 100]) (B C : Nat) (v : Value) (w : World) (hv : IsInts B C w v 1 fun _ => n) : Calls Tryz.prog 69 #[pr p q, .string wd, v] w fun e w' => e = .returned (.string (toldT (secondV p q n) (atB p q n))) ∧ Below w.heap.size w w' := by
 obtain ⟨g, off, cap, rfl, hg, hC, hc0⟩ := ints_one hv
 go_enter Tryz.func69, Tryz.ntmps69
 go_wp2_with fail
 refine region_namedD ?_
 intro W hW
 have hBW : Below w.heap.size w W := by
   rw [hW]
   exact zb
 have cp : W.cell? ⟨w.heap.size, 0, none⟩ = some (.int .i64 p) := by rw [hW]; go_simp
 have cq : W.cell? ⟨w.heap.size, 1, none⟩ = some (.int .i64 q) := by rw [hW]; go_simp
 have c0 : W.cell? ⟨g, off, none⟩ = some (.int .i64 n) := (hBW.cell (p := ⟨g, off, none⟩) (by show g < _; omega)).trans hc0
 clear hW hc0
 obtain ⟨S, hSd⟩ : ∃ S : World → Prop, (fun V => Below W.heap.size W V) = S := ⟨_, rfl⟩
 have hkeep : ∀ V V' : World, S V → Below V.heap.size V V' → S V' := by rw [← hSd]; exact fun V V' h hb => h.trans (hb.mono h.size)
 have gk0 : ∀ iq : KeptBy S, iq.world.cell? ⟨w.heap.size, 0, none⟩ = some (.int .i64 p) := by rw [← hSd]; exact fun iq => cell_belowP iq.ok cp
 have gk1 : ∀ iq : KeptBy S, iq.world.cell? ⟨w.heap.size, 1, none⟩ = some (.int .i64 q) := by rw [← hSd]; exact fun iq => cell_belowP iq.ok cq
 have gk2 : ∀ iq : KeptBy S, iq.world.cell? ⟨g, off, none⟩ = some (.int .i64 n) := by rw [← hSd]; exact fun iq => cell_belowP iq.ok c0
 have gkn : Nonempty (KeptBy S) := ⟨⟨W.drew, by rw [← hSd]; exact (Below.refl _ _).drew⟩⟩
 refine wp_region_kept (S := S) (by rw [← hSd]; exact (Below.refl _ _).drew) (by kernel_rfl) (by kernel_rfl) ?_
 repeat (go_big_quiet_step ((first | (go_at_call 98; refine (specSecond_any p q n _).mono ?_; rintro e w' ⟨rfl, hhw⟩; exact ⟨rfl, ⟨w', hkeep _ _ (KeptBy.ok _) hhw⟩, rfl⟩) | (go_at_call 65; refine (told_any _ _ _ (fun _ => second_small p q n)).mono ?_; rintro e w' ⟨rfl, hhw⟩; exact ⟨rfl, ⟨w', hkeep _ _ (KeptBy.ok _) hhw⟩, rfl⟩) | fail)))
 refine wpQuiet_nil ?_
 rintro z3 ⟨iz, hwz⟩
 have bz3 : Below W.heap.size W z3 := by
   have this : S z3 := by rw [hwz]; exact iz.ok
   rw [← hSd] at this
   exact this
 clear hwz iz gkn hkeep hSd gk0 gk1 gk2
 go_wp2
 go_ret
 exact ⟨rfl, hBW.trans (bz3.mono hBW.size)⟩
set_option maxRecDepth 100000 in
set_option maxHeartbeats 4000000 in
theorem ask_rank (p q n : Int) (wd : ByteArray) (hw : wd.toList = [114, 97, 110, 107]) (B C : Nat) (v : Value) (w : World) (hv : IsInts B C w v 1 fun _ => n) : Calls Tryz.prog 69 #[pr p q, .string wd, v] w fun e w' => e = .returned (.string (toldT (rankV p q n) (rankB p q n))) ∧ Below w.heap.size w w' := by
 obtain ⟨g, off, cap, rfl, hg, hC, hc0⟩ := ints_one hv
 go_enter Tryz.func69, Tryz.ntmps69
 go_wp2_with fail
 refine region_namedD ?_
 intro W hW
 have hBW : Below w.heap.size w W := by
   rw [hW]
   exact zb
 have cp : W.cell? ⟨w.heap.size, 0, none⟩ = some (.int .i64 p) := by rw [hW]; go_simp
 have cq : W.cell? ⟨w.heap.size, 1, none⟩ = some (.int .i64 q) := by rw [hW]; go_simp
 have c0 : W.cell? ⟨g, off, none⟩ = some (.int .i64 n) := (hBW.cell (p := ⟨g, off, none⟩) (by show g < _; omega)).trans hc0
 clear hW hc0
 obtain ⟨S, hSd⟩ : ∃ S : World → Prop, (fun V => Below W.heap.size W V) = S := ⟨_, rfl⟩
 have hkeep : ∀ V V' : World, S V → Below V.heap.size V V' → S V' := by rw [← hSd]; exact fun V V' h hb => h.trans (hb.mono h.size)
 have gk0 : ∀ iq : KeptBy S, iq.world.cell? ⟨w.heap.size, 0, none⟩ = some (.int .i64 p) := by rw [← hSd]; exact fun iq => cell_belowP iq.ok cp
 have gk1 : ∀ iq : KeptBy S, iq.world.cell? ⟨w.heap.size, 1, none⟩ = some (.int .i64 q) := by rw [← hSd]; exact fun iq => cell_belowP iq.ok cq
 have gk2 : ∀ iq : KeptBy S, iq.world.cell? ⟨g, off, none⟩ = some (.int .i64 n) := by rw [← hSd]; exact fun iq => cell_belowP iq.ok c0
 have gkn : Nonempty (KeptBy S) := ⟨⟨W.drew, by rw [← hSd]; exact (Below.refl _ _).drew⟩⟩
 refine wp_region_kept (S := S) (by rw [← hSd]; exact (Below.refl _ _).drew) (by kernel_rfl) (by kernel_rfl) ?_
 repeat (go_big_quiet_step ((first | (go_at_call 99; refine (specRank_any p q n _).mono ?_; rintro e w' ⟨rfl, hhw⟩; exact ⟨rfl, ⟨w', hkeep _ _ (KeptBy.ok _) hhw⟩, rfl⟩) | (go_at_call 65; refine (told_any _ _ _ (fun _ => rank_small p q n)).mono ?_; rintro e w' ⟨rfl, hhw⟩; exact ⟨rfl, ⟨w', hkeep _ _ (KeptBy.ok _) hhw⟩, rfl⟩) | fail)))
 refine wpQuiet_nil ?_
 rintro z3 ⟨iz, hwz⟩
 have bz3 : Below W.heap.size W z3 := by
   have this : S z3 := by rw [hwz]; exact iz.ok
   rw [← hSd] at this
   exact this
 clear hwz iz gkn hkeep hSd gk0 gk1 gk2
 go_wp2
 go_ret
 exact ⟨rfl, hBW.trans (bz3.mono hBW.size)⟩
set_option maxRecDepth 100000 in
set_option maxHeartbeats 4000000 in
theorem ask_period (p q n : Int) (wd : ByteArray) (hw : wd.toList = [112, 101, 114, 105, 111, 100]) (B C : Nat) (v : Value) (w : World) (hv : IsInts B C w v 1 fun _ => n) : Calls Tryz.prog 69 #[pr p q, .string wd, v] w fun e w' => e = .returned (.string (toldT (periodV p q n) (rankB p q n))) ∧ Below w.heap.size w w' := by
 obtain ⟨g, off, cap, rfl, hg, hC, hc0⟩ := ints_one hv
 go_enter Tryz.func69, Tryz.ntmps69
 go_wp2_with fail
 refine region_namedD ?_
 intro W hW
 have hBW : Below w.heap.size w W := by
   rw [hW]
   exact zb
 have cp : W.cell? ⟨w.heap.size, 0, none⟩ = some (.int .i64 p) := by rw [hW]; go_simp
 have cq : W.cell? ⟨w.heap.size, 1, none⟩ = some (.int .i64 q) := by rw [hW]; go_simp
 have c0 : W.cell? ⟨g, off, none⟩ = some (.int .i64 n) := (hBW.cell (p := ⟨g, off, none⟩) (by show g < _; omega)).trans hc0
 clear hW hc0
 obtain ⟨S, hSd⟩ : ∃ S : World → Prop, (fun V => Below W.heap.size W V) = S := ⟨_, rfl⟩
 have hkeep : ∀ V V' : World, S V → Below V.heap.size V V' → S V' := by rw [← hSd]; exact fun V V' h hb => h.trans (hb.mono h.size)
 have gk0 : ∀ iq : KeptBy S, iq.world.cell? ⟨w.heap.size, 0, none⟩ = some (.int .i64 p) := by rw [← hSd]; exact fun iq => cell_belowP iq.ok cp
 have gk1 : ∀ iq : KeptBy S, iq.world.cell? ⟨w.heap.size, 1, none⟩ = some (.int .i64 q) := by rw [← hSd]; exact fun iq => cell_belowP iq.ok cq
 have gk2 : ∀ iq : KeptBy S, iq.world.cell? ⟨g, off, none⟩ = some (.int .i64 n) := by rw [← hSd]; exact fun iq => cell_belowP iq.ok c0
 have gkn : Nonempty (KeptBy S) := ⟨⟨W.drew, by rw [← hSd]; exact (Below.refl _ _).drew⟩⟩
 refine wp_region_kept (S := S) (by rw [← hSd]; exact (Below.refl _ _).drew) (by kernel_rfl) (by kernel_rfl) ?_
 repeat (go_big_quiet_step ((first | (go_at_call 100; refine (specPeriod_any p q n _).mono ?_; rintro e w' ⟨rfl, hhw⟩; exact ⟨rfl, ⟨w', hkeep _ _ (KeptBy.ok _) hhw⟩, rfl⟩) | (go_at_call 65; refine (told_any _ _ _ (fun _ => period_small p q n)).mono ?_; rintro e w' ⟨rfl, hhw⟩; exact ⟨rfl, ⟨w', hkeep _ _ (KeptBy.ok _) hhw⟩, rfl⟩) | fail)))
 refine wpQuiet_nil ?_
 rintro z3 ⟨iz, hwz⟩
 have bz3 : Below W.heap.size W z3 := by
   have this : S z3 := by rw [hwz]; exact iz.ok
   rw [← hSd] at this
   exact this
 clear hwz iz gkn hkeep hSd gk0 gk1 gk2
 go_wp2
 go_ret
 exact ⟨rfl, hBW.trans (bz3.mono hBW.size)⟩
set_option maxRecDepth 100000 in
set_option maxHeartbeats 4000000 in
theorem ask_circle (p q n m : Int) (wd : ByteArray) (hw : wd.toList = [99, 105, 114, 99, 108, 101]) (B C : Nat) (v : Value) (w : World) (hv : IsInts B C w v 2 fun i => if i = 0 then n else m) : Calls Tryz.prog 69 #[pr p q, .string wd, v] w fun e w' => e = .returned (.string (toldT (circV n m) (circB n m))) ∧ Below w.heap.size w w' := by
 obtain ⟨g, off, cap, rfl, hg, hC, hc0, hc1⟩ := ints_two hv
 replace hc0 : w.cell? ⟨g, off, none⟩ = some (.int .i64 n) := hc0
 replace hc1 : w.cell? ⟨g, off + 1, none⟩ = some (.int .i64 m) := hc1
 go_enter Tryz.func69, Tryz.ntmps69
 go_wp2_with fail
 refine region_namedD ?_
 intro W hW
 have hBW : Below w.heap.size w W := by
   rw [hW]
   exact zb
 have cp : W.cell? ⟨w.heap.size, 0, none⟩ = some (.int .i64 p) := by rw [hW]; go_simp
 have cq : W.cell? ⟨w.heap.size, 1, none⟩ = some (.int .i64 q) := by rw [hW]; go_simp
 have c0 : W.cell? ⟨g, off, none⟩ = some (.int .i64 n) := (hBW.cell (p := ⟨g, off, none⟩) (by show g < _; omega)).trans hc0
 have c1 : W.cell? ⟨g, off + 1, none⟩ = some (.int .i64 m) := (hBW.cell (p := ⟨g, off + 1, none⟩) (by show g < _; omega)).trans hc1
 clear hW hc0 hc1
 obtain ⟨S, hSd⟩ : ∃ S : World → Prop, (fun V => Below W.heap.size W V) = S := ⟨_, rfl⟩
 have hkeep : ∀ V V' : World, S V → Below V.heap.size V V' → S V' := by rw [← hSd]; exact fun V V' h hb => h.trans (hb.mono h.size)
 have gk0 : ∀ iq : KeptBy S, iq.world.cell? ⟨w.heap.size, 0, none⟩ = some (.int .i64 p) := by rw [← hSd]; exact fun iq => cell_belowP iq.ok cp
 have gk1 : ∀ iq : KeptBy S, iq.world.cell? ⟨w.heap.size, 1, none⟩ = some (.int .i64 q) := by rw [← hSd]; exact fun iq => cell_belowP iq.ok cq
 have gk2 : ∀ iq : KeptBy S, iq.world.cell? ⟨g, off, none⟩ = some (.int .i64 n) := by rw [← hSd]; exact fun iq => cell_belowP iq.ok c0
 have gk3 : ∀ iq : KeptBy S, iq.world.cell? ⟨g, off + 1, none⟩ = some (.int .i64 m) := by rw [← hSd]; exact fun iq => cell_belowP iq.ok c1
 have gkn : Nonempty (KeptBy S) := ⟨⟨W.drew, by rw [← hSd]; exact (Below.refl _ _).drew⟩⟩
 refine wp_region_kept (S := S) (by rw [← hSd]; exact (Below.refl _ _).drew) (by kernel_rfl) (by kernel_rfl) ?_
 repeat (go_big_quiet_step ((first | (go_at_call 105; refine (specCircle_any n m _).mono ?_; rintro e w' ⟨rfl, hhw⟩; exact ⟨rfl, ⟨w', hkeep _ _ (KeptBy.ok _) hhw⟩, rfl⟩) | (go_at_call 65; refine (told_any _ _ _ (fun _ => circ_small n m)).mono ?_; rintro e w' ⟨rfl, hhw⟩; exact ⟨rfl, ⟨w', hkeep _ _ (KeptBy.ok _) hhw⟩, rfl⟩) | fail)))
 refine wpQuiet_nil ?_
 rintro z3 ⟨iz, hwz⟩
 have bz3 : Below W.heap.size W z3 := by
   have this : S z3 := by rw [hwz]; exact iz.ok
   rw [← hSd] at this
   exact this
 clear hwz iz gkn hkeep hSd gk0 gk1 gk2 gk3
 go_wp2
 go_ret
 exact ⟨rfl, hBW.trans (bz3.mono hBW.size)⟩
set_option maxRecDepth 100000 in
set_option maxHeartbeats 4000000 in
theorem ask_far (p q n m : Int) (wd : ByteArray) (hw : wd.toList = [102, 97, 114]) (B C : Nat) (v : Value) (w : World) (hv : IsInts B C w v 2 fun i => if i = 0 then n else m) : Calls Tryz.prog 69 #[pr p q, .string wd, v] w fun e w' => e = .returned (.string (toldT (farFirstV p q n m) (decide (0 ≤ farFirstV p q n m)))) ∧ Below w.heap.size w w' := by
 obtain ⟨g, off, cap, rfl, hg, hC, hc0, hc1⟩ := ints_two hv
 replace hc0 : w.cell? ⟨g, off, none⟩ = some (.int .i64 n) := hc0
 replace hc1 : w.cell? ⟨g, off + 1, none⟩ = some (.int .i64 m) := hc1
 go_enter Tryz.func69, Tryz.ntmps69
 go_wp2_with fail
 refine region_namedD ?_
 intro W hW
 have hBW : Below w.heap.size w W := by
   rw [hW]
   exact zb
 have cp : W.cell? ⟨w.heap.size, 0, none⟩ = some (.int .i64 p) := by rw [hW]; go_simp
 have cq : W.cell? ⟨w.heap.size, 1, none⟩ = some (.int .i64 q) := by rw [hW]; go_simp
 have c0 : W.cell? ⟨g, off, none⟩ = some (.int .i64 n) := (hBW.cell (p := ⟨g, off, none⟩) (by show g < _; omega)).trans hc0
 have c1 : W.cell? ⟨g, off + 1, none⟩ = some (.int .i64 m) := (hBW.cell (p := ⟨g, off + 1, none⟩) (by show g < _; omega)).trans hc1
 clear hW hc0 hc1
 obtain ⟨S, hSd⟩ : ∃ S : World → Prop, (fun V => Below W.heap.size W V) = S := ⟨_, rfl⟩
 have hkeep : ∀ V V' : World, S V → Below V.heap.size V V' → S V' := by rw [← hSd]; exact fun V V' h hb => h.trans (hb.mono h.size)
 have gk0 : ∀ iq : KeptBy S, iq.world.cell? ⟨w.heap.size, 0, none⟩ = some (.int .i64 p) := by rw [← hSd]; exact fun iq => cell_belowP iq.ok cp
 have gk1 : ∀ iq : KeptBy S, iq.world.cell? ⟨w.heap.size, 1, none⟩ = some (.int .i64 q) := by rw [← hSd]; exact fun iq => cell_belowP iq.ok cq
 have gk2 : ∀ iq : KeptBy S, iq.world.cell? ⟨g, off, none⟩ = some (.int .i64 n) := by rw [← hSd]; exact fun iq => cell_belowP iq.ok c0
 have gk3 : ∀ iq : KeptBy S, iq.world.cell? ⟨g, off + 1, none⟩ = some (.int .i64 m) := by rw [← hSd]; exact fun iq => cell_belowP iq.ok c1
 have gkn : Nonempty (KeptBy S) := ⟨⟨W.drew, by rw [← hSd]; exact (Below.refl _ _).drew⟩⟩
 refine wp_region_kept (S := S) (by rw [← hSd]; exact (Below.refl _ _).drew) (by kernel_rfl) (by kernel_rfl) ?_
 repeat (go_big_quiet_step ((first | (go_at_call 104; refine (specFarFirst_any p q n m _).mono ?_; rintro e w' ⟨rfl, hhw⟩; exact ⟨rfl, ⟨w', hkeep _ _ (KeptBy.ok _) hhw⟩, rfl⟩) | fail)))
 refine wpQuiet_nil ?_
 rintro z3 ⟨iz, hwz⟩
 have bz3 : Below W.heap.size W z3 := by
   have this : S z3 := by rw [hwz]; exact iz.ok
   rw [← hSd] at this
   exact this
 clear hwz iz gkn hkeep hSd gk0 gk1 gk2 gk3
 have hBZ := Lib.hid (hBW.trans (bz3.mono hBW.size))
 go_wp2_with fail
 refine (told_any (farFirstV p q n m) _ _ (fun _ => far_small p q n m)).mono ?_
 rintro e w4 ⟨rfl, hb4⟩
 go_wp2
 go_ret
 exact ⟨rfl, hBZ.out.trans (hb4.mono hBZ.out.size)⟩
set_option maxRecDepth 100000 in
set_option maxHeartbeats 4000000 in
theorem ask_passes (p q n : Int) (wd : ByteArray) (hw : wd.toList = [112, 97, 115, 115, 101, 115]) (B C : Nat) (v : Value) (w : World) (hv : IsInts B C w v 1 fun _ => n) : Calls Tryz.prog 69 #[pr p q, .string wd, v] w fun e w' => e = .returned (.string (yesT (passFirstB p q n && passSecondB p q n))) ∧ Below w.heap.size w w' := by
 obtain ⟨g, off, cap, rfl, hg, hC, hc0⟩ := ints_one hv
 cases hb : passFirstB p q n with
 | true =>
   have hp1 := fun W => specPassFirst_is p q n true W hb
   go_enter Tryz.func69, Tryz.ntmps69
   go_wp2_with fail
   refine region_namedD ?_
   intro W hW
   have hBW : Below w.heap.size w W := by
     rw [hW]
     exact zb
   have cp : W.cell? ⟨w.heap.size, 0, none⟩ = some (.int .i64 p) := by rw [hW]; go_simp
   have cq : W.cell? ⟨w.heap.size, 1, none⟩ = some (.int .i64 q) := by rw [hW]; go_simp
   have c0 : W.cell? ⟨g, off, none⟩ = some (.int .i64 n) := (hBW.cell (p := ⟨g, off, none⟩) (by show g < _; omega)).trans hc0
   clear hW hc0
   obtain ⟨S, hSd⟩ : ∃ S : World → Prop, (fun V => Below W.heap.size W V) = S := ⟨_, rfl⟩
   have hkeep : ∀ V V' : World, S V → Below V.heap.size V V' → S V' := by rw [← hSd]; exact fun V V' h hb => h.trans (hb.mono h.size)
   have gk0 : ∀ iq : KeptBy S, iq.world.cell? ⟨w.heap.size, 0, none⟩ = some (.int .i64 p) := by rw [← hSd]; exact fun iq => cell_belowP iq.ok cp
   have gk1 : ∀ iq : KeptBy S, iq.world.cell? ⟨w.heap.size, 1, none⟩ = some (.int .i64 q) := by rw [← hSd]; exact fun iq => cell_belowP iq.ok cq
   have gk2 : ∀ iq : KeptBy S, iq.world.cell? ⟨g, off, none⟩ = some (.int .i64 n) := by rw [← hSd]; exact fun iq => cell_belowP iq.ok c0
   have gkn : Nonempty (KeptBy S) := ⟨⟨W.drew, by rw [← hSd]; exact (Below.refl _ _).drew⟩⟩
   refine wp_region_kept (S := S) (by rw [← hSd]; exact (Below.refl _ _).drew) (by kernel_rfl) (by kernel_rfl) ?_
   repeat (go_big_quiet_step ((first | (go_at_call 102; refine (hp1 _).mono ?_; rintro e w' ⟨rfl, hhw⟩; exact ⟨rfl, ⟨w', hkeep _ _ (KeptBy.ok _) hhw⟩, rfl⟩) | (go_at_call 103; refine (specPassSecond_any p q n _).mono ?_; rintro e w' ⟨rfl, hhw⟩; exact ⟨rfl, ⟨w', hkeep _ _ (KeptBy.ok _) hhw⟩, rfl⟩) | (go_at_call 101; refine (yes_any _ _).mono ?_; rintro e w' ⟨rfl, hhw⟩; exact ⟨rfl, ⟨w', hkeep _ _ (KeptBy.ok _) hhw⟩, rfl⟩) | fail)))
   refine wpQuiet_nil ?_
   rintro z3 ⟨iz, hwz⟩
   have bz3 : Below W.heap.size W z3 := by
     have this : S z3 := by rw [hwz]; exact iz.ok
     rw [← hSd] at this
     exact this
   clear hwz iz gkn hkeep hSd gk0 gk1 gk2
   go_wp2
   go_ret
   exact ⟨by first | rfl | (rw [hb]; rfl) | simp [hb], hBW.trans (bz3.mono hBW.size)⟩
 | false =>
   have hp1 := fun W => specPassFirst_is p q n false W hb
   go_enter Tryz.func69, Tryz.ntmps69
   go_wp2_with fail
   refine region_namedD ?_
   intro W hW
   have hBW : Below w.heap.size w W := by
     rw [hW]
     exact zb
   have cp : W.cell? ⟨w.heap.size, 0, none⟩ = some (.int .i64 p) := by rw [hW]; go_simp
   have cq : W.cell? ⟨w.heap.size, 1, none⟩ = some (.int .i64 q) := by rw [hW]; go_simp
   have c0 : W.cell? ⟨g, off, none⟩ = some (.int .i64 n) := (hBW.cell (p := ⟨g, off, none⟩) (by show g < _; omega)).trans hc0
   clear hW hc0
   obtain ⟨S, hSd⟩ : ∃ S : World → Prop, (fun V => Below W.heap.size W V) = S := ⟨_, rfl⟩
   have hkeep : ∀ V V' : World, S V → Below V.heap.size V V' → S V' := by rw [← hSd]; exact fun V V' h hb => h.trans (hb.mono h.size)
   have gk0 : ∀ iq : KeptBy S, iq.world.cell? ⟨w.heap.size, 0, none⟩ = some (.int .i64 p) := by rw [← hSd]; exact fun iq => cell_belowP iq.ok cp
   have gk1 : ∀ iq : KeptBy S, iq.world.cell? ⟨w.heap.size, 1, none⟩ = some (.int .i64 q) := by rw [← hSd]; exact fun iq => cell_belowP iq.ok cq
   have gk2 : ∀ iq : KeptBy S, iq.world.cell? ⟨g, off, none⟩ = some (.int .i64 n) := by rw [← hSd]; exact fun iq => cell_belowP iq.ok c0
   have gkn : Nonempty (KeptBy S) := ⟨⟨W.drew, by rw [← hSd]; exact (Below.refl _ _).drew⟩⟩
   refine wp_region_kept (S := S) (by rw [← hSd]; exact (Below.refl _ _).drew) (by kernel_rfl) (by kernel_rfl) ?_
   repeat (go_big_quiet_step ((first | (go_at_call 102; refine (hp1 _).mono ?_; rintro e w' ⟨rfl, hhw⟩; exact ⟨rfl, ⟨w', hkeep _ _ (KeptBy.ok _) hhw⟩, rfl⟩) | (go_at_call 103; refine (specPassSecond_any p q n _).mono ?_; rintro e w' ⟨rfl, hhw⟩; exact ⟨rfl, ⟨w', hkeep _ _ (KeptBy.ok _) hhw⟩, rfl⟩) | (go_at_call 101; refine (yes_any _ _).mono ?_; rintro e w' ⟨rfl, hhw⟩; exact ⟨rfl, ⟨w', hkeep _ _ (KeptBy.ok _) hhw⟩, rfl⟩) | fail)))
   refine wpQuiet_nil ?_
   rintro z3 ⟨iz, hwz⟩
   have bz3 : Below W.heap.size W z3 := by
     have this : S z3 := by rw [hwz]; exact iz.ok
     rw [← hSd] at this
     exact this
   clear hwz iz gkn hkeep hSd gk0 gk1 gk2
   go_wp2
   go_ret
   exact ⟨by first | rfl | (rw [hb]; rfl) | simp [hb], hBW.trans (bz3.mono hBW.size)⟩
set_option maxRecDepth 100000 in
set_option maxHeartbeats 4000000 in
theorem ask_written (p q n : Int) (wd : ByteArray) (hw : wd.toList = [119, 114, 105, 116, 116, 101, 110]) (B C : Nat) (v : Value) (w : World) (hv : IsInts B C w v 1 fun _ => n) : Calls Tryz.prog 69 #[pr p q, .string wd, v] w fun e w' => e = .returned (.string (writT n)) ∧ Below w.heap.size w w' := by
 obtain ⟨g, off, cap, rfl, hg, hC, hc0⟩ := ints_one hv
 have hgw : g < w.heap.size := by omega
 have d0 : ∀ o, (w.alloc o).cell? ⟨g, off, none⟩ = some (.int .i64 n) := fun o => cell_alloc_is o hc0
 by_cases h : n ≤ 10000
 · have h1 : n ≤ 10000 := h
   have HW := Lib.hid (show writT n = writtenV n by rw [writT, if_pos h])
   go_enter Tryz.func69, Tryz.ntmps69
   have c0 := hc0
   go_wp2_with fail
   refine (specWritten_any n _).mono ?_
   rintro e w4 ⟨rfl, hb4⟩
   go_wp2
   go_ret
   exact ⟨by rw [HW.out]; rfl, (show Below w.heap.size w w4 by exact zb)⟩
 · have h1 : ¬ n ≤ 10000 := h
   have HW := Lib.hid (show writT n = noneT by rw [writT, if_neg h])
   go_enter Tryz.func69, Tryz.ntmps69
   have c0 := hc0
   go_wp2
   go_ret
   exact ⟨by rw [HW.out]; rfl, (by exact zb)⟩
set_option maxRecDepth 100000 in
set_option maxHeartbeats 4000000 in
theorem ask_no_many (p q : Int) (wd : ByteArray) (a : Option Addr) (L cap : Nat) (w : World) (hL : L ≠ 1 ∧ L ≠ 2) : Calls Tryz.prog 69 #[pr p q, .string wd, .slice a L cap] w fun e w' => e = .returned (.string whatT) ∧ Below w.heap.size w w' := by
 have l1 : ¬ (L : Int) = 1 := by omega
 have l2 : ¬ (L : Int) = 2 := by omega
 go_enter Tryz.func69, Tryz.ntmps69
 go_wp2
 all_goals (go_ret; exact ⟨rfl, (by exact zb)⟩)
set_option maxRecDepth 100000 in
set_option maxHeartbeats 4000000 in
theorem ask_no_one (p q : Int) (wd : ByteArray) (a : Option Addr) (L cap : Nat) (w : World) (hL : L = 1) (h0 : ¬ wd.toList = [102, 105, 114, 115, 116]) (h1 : ¬ wd.toList = [115, 101, 99, 111, 110, 100]) (h2 : ¬ wd.toList = [114, 97, 110, 107]) (h3 : ¬ wd.toList = [112, 101, 114, 105, 111, 100]) (h4 : ¬ wd.toList = [112, 97, 115, 115, 101, 115]) (h5 : ¬ wd.toList = [119, 114, 105, 116, 116, 101, 110]) : Calls Tryz.prog 69 #[pr p q, .string wd, .slice a L cap] w fun e w' => e = .returned (.string whatT) ∧ Below w.heap.size w w' := by
 subst hL
 go_enter Tryz.func69, Tryz.ntmps69
 go_wp2
 all_goals (go_ret; exact ⟨rfl, (by exact zb)⟩)
set_option maxRecDepth 100000 in
set_option maxHeartbeats 4000000 in
theorem ask_no_two (p q : Int) (wd : ByteArray) (a : Option Addr) (L cap : Nat) (w : World) (hL : L = 2) (h0 : ¬ wd.toList = [102, 97, 114]) (h1 : ¬ wd.toList = [99, 105, 114, 99, 108, 101]) : Calls Tryz.prog 69 #[pr p q, .string wd, .slice a L cap] w fun e w' => e = .returned (.string whatT) ∧ Below w.heap.size w w' := by
 subst hL
 go_enter Tryz.func69, Tryz.ntmps69
 go_wp2
 all_goals (go_ret; exact ⟨rfl, (by exact zb)⟩)
end Go.Proofs.YtblphilcmfabkaaGreatDoor
