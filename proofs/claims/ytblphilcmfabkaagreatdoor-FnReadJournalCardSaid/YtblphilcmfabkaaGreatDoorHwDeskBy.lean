/- Contracts and laws that the statement's proof stands on, one text behind the other. -/
import Derived.Test.YtblphilcmfabkaaGreatDoorAla0c
import Derived.Deep.RegionWith

namespace Go.Proofs.YtblphilcmfabkaaGreatDoor
open Go.RowKit
def DeskRet (d : DeskN) (ok : Bool) (w : World) (e : Ending) (w' : World) : Prop :=
 ∃ a c, e = .returned (.tuple #[.agg #[.int .i64 d.now.1, .int .i64 d.now.2, .slice a d.past.length c], .bool ok]) ∧ IsPairs w.heap.size w'.heap.size w' (.slice a d.past.length c) d.past ∧ Below w.heap.size w w'
set_option maxHeartbeats 1000000 in
theorem pairBy_any (p q k a b : Int) (w : World) (hp : pairB p q = true) : Calls Tryz.prog 91 #[pr p q, .agg #[.int .i64 k, .int .i64 a, .int .i64 b]] w fun e w' => e = .returned (pr (byN (p, q) k a b).1 (byN (p, q) k a b).2) ∧ Below w.heap.size w w' := by
 obtain ⟨hp1, hp2⟩ : numB p = true ∧ numB q = true := by simpa [pairB] using hp
 obtain ⟨p1, p2⟩ := numB_true hp1
 obtain ⟨q1, q2⟩ := numB_true hp2
 clear hp1 hp2
 have Wp : IntKind.i64.wrap (p + 1) = p + 1 := by rw [IntKind.wrap_i64]; omega
 have Wq : IntKind.i64.wrap (q + 1) = q + 1 := by rw [IntKind.wrap_i64]; omega
 have Vp : IntKind.i64.wrap (p - 1) = p - 1 := by rw [IntKind.wrap_i64]; omega
 have Vq : IntKind.i64.wrap (q - 1) = q - 1 := by rw [IntKind.wrap_i64]; omega
 have hcall := fun w => implTurned_yes p q w hp
 rcases (show k = 0 ∨ k = 1 ∨ k = 2 ∨ k = 3 ∨ (¬ k = 0 ∧ ¬ k = 1 ∧ ¬ k = 2 ∧ ¬ k = 3) by omega) with rfl | rfl | rfl | rfl | ⟨k0, k1, k2, k3⟩
 · go_enter Tryz.func91, Tryz.ntmps91
   go_wp2_with fail
   refine bodyPost_ret (v := pr a b) (by simp [results, Tryz.results91, go_sem] <;> go_simp) rfl ⟨rfl, ?_⟩
   (repeat (first | exact Below.refl _ _ | refine Below.setCell ?_ zo _ | refine Below.alloc ?_ zo _))
 · go_enter Tryz.func91, Tryz.ntmps91
   go_wp2_with fail
   refine (hcall _).mono ?_
   rintro e w1 ⟨rfl, hb1⟩
   obtain ⟨hc1, hf1⟩ := bcell hb1
   have hz1 := hb1.size
   simp at hz1
   have hz1a : w.heap.size + 1 + 1 < w1.heap.size := by omega
   go_wp2_with fail
   refine bodyPost_ret (v := pr (-p) q) (by simp [results, Tryz.results91, go_sem] <;> go_simp) rfl ⟨rfl, ?_⟩
   exact zb
 · go_enter Tryz.func91, Tryz.ntmps91
   go_wp2_with fail
   refine bodyPost_ret (v := pr (p + 1) (q + 1)) (by simp [results, Tryz.results91, go_sem] <;> go_simp) rfl ⟨rfl, ?_⟩
   (repeat (first | exact Below.refl _ _ | refine Below.setCell ?_ zo _ | refine Below.alloc ?_ zo _))
 · go_enter Tryz.func91, Tryz.ntmps91
   go_wp2_with fail
   refine bodyPost_ret (v := pr (p - 1) (q - 1)) (by simp [results, Tryz.results91, go_sem] <;> go_simp) rfl ⟨rfl, ?_⟩
   (repeat (first | exact Below.refl _ _ | refine Below.setCell ?_ zo _ | refine Below.alloc ?_ zo _))
 · have hby : byN (p, q) k a b = (p, q) := by unfold byN; rw [if_neg k0, if_neg k1, if_neg k2, if_neg k3]
   rw [hby]
   clear hby
   go_enter Tryz.func91, Tryz.ntmps91
   go_wp2_with fail
   refine bodyPost_ret (v := pr p q) (by simp [results, Tryz.results91, go_sem] <;> go_simp) rfl ⟨rfl, ?_⟩
   (repeat (first | exact Below.refl _ _ | refine Below.setCell ?_ zo _ | refine Below.alloc ?_ zo _))
set_option maxRecDepth 100000 in
set_option maxHeartbeats 2000000 in
theorem putBack_none (B C : Nat) (p q : Int) (v : Value) (w : World) (h : IsPairs B C w v []) :
   Calls Tryz.prog 89 #[.agg #[.int .i64 p, .int .i64 q, v]] w (DeskRet ⟨(p, q), []⟩ false w) := by
 obtain ⟨a, cap, rfl, hC, hs⟩ := id h
 clear hs
 have H := Lib.hid h
 clear h
 go_enter Tryz.func89, Tryz.ntmps89
 go_wp2_with fail
 refine (deskWith_any B C p q [] _ _ (H.out.below (show Below w.heap.size w _ by (repeat (first | exact Below.refl _ _ | refine Below.alloc ?_ zo _))) hC) (by simp)).mono ?_
 rintro e w1 ⟨a1, c1, rfl, hown1, hb1⟩
 dsimp only at hown1 ⊢
 obtain ⟨hc1, hf1⟩ := bcell hb1
 have hz1 := hb1.size
 simp at hz1
 have hz1a : w.heap.size + 1 < w1.heap.size := by omega
 have HB1 := Lib.hid (show Below w.heap.size w w1 by (repeat (first | exact Below.refl _ _ | refine Below.alloc ?_ zo _ | refine Below.trans ?_ (Below.mono (by assumption) zo))))
 go_wp2_with fail
 have HO1 := Lib.hid (own_le hown1 (show w.heap.size + 2 ≤ _ by simp))
 refine bodyPost_ret (v := .tuple #[.agg #[.int .i64 p, .int .i64 q, .slice a1 0 c1], .bool false]) (by simp [results, Tryz.results89, go_sem] <;> go_simp) rfl ⟨a1, c1, rfl, ?_, ?_⟩
 · exact ((((IsPairs.of_owns HO1.out).set (p := ⟨w.heap.size + 1, 0, none⟩) (by show w.heap.size + 1 < _; omega) _).set (p := ⟨w.heap.size + 1, 1, none⟩) (by show w.heap.size + 1 < _; omega) _).set (p := ⟨w.heap.size + 1, 2, none⟩) (by show w.heap.size + 1 < _; omega) _).mono zO (by simp) (Nat.le_refl _)
 · exact ((HB1.out.setCell zs _).setCell zs _).setCell zs _
set_option maxRecDepth 100000 in
set_option maxHeartbeats 2000000 in
theorem putBack_some (B C : Nat) (p q r s : Int) (L M : List (Int × Int)) (hL : L = M ++ [(r, s)]) (v : Value) (w : World) (h : IsPairs B C w v L) (hn : L.length ≤ 1048600) :
   Calls Tryz.prog 89 #[.agg #[.int .i64 p, .int .i64 q, v]] w (DeskRet ⟨(r, s), M⟩ true w) := by
 have HL := Lib.hid hL
 have HLn := Lib.hid (show L.length = M.length + 1 by rw [hL]; simp)
 obtain ⟨a, cap, rfl, hC, hs⟩ := id h
 rcases hs with hs | ⟨g, off, rfl, hg1, hg2, hcc, _⟩
 · rw [hs] at hL; simp at hL
 have hx : L[M.length]? = some (r, s) := by rw [hL]; simp
 obtain ⟨c1, c2⟩ := hcc _ _ hx
 have hgz : g < w.heap.size := by omega
 have hm0 : (0 : Int) ≤ (M.length : Int) := by omega
 have hm1 : (M.length : Int) < (L.length : Int) := by have := HLn.out; omega
 have hm3 : (0 : Int) < (L.length : Int) := by omega
 have hm5 : ¬ ((M.length : Int) < 0) := by omega
 have W1 : IntKind.i64.wrap ((L.length : Int) - 1) = (M.length : Int) := by have := HLn.out; rw [IntKind.wrap_i64]; omega
 have W2 : (L.length : Int) - 1 = (M.length : Int) := by have := HLn.out; omega
 have H := Lib.hid h
 have hm2 : (M.length : Int) ≤ (cap : Int) := by have := HLn.out; omega
 have hm4 : M.length < L.length := by have := HLn.out; omega
 have HT := Lib.hid (show IsPairs B C w (.slice (some ⟨g, off, none⟩) M.length cap) M by
   have := h.take M.length cap zO zO
   rwa [HL.out, List.take_left] at this)
 clear h hL hx hcc
 go_enter Tryz.func89, Tryz.ntmps89
 go_wp2_with fail
 go_region_with (go_at_call 50; refine (deskWith_any B C r s M _ _ (HT.out.below (show Below w.heap.size w _ by (repeat (first | exact Below.refl _ _ | refine Below.alloc ?_ zo _ | refine Below.drew ?_))) hC) zO).mono ?_; rintro e w1 ⟨a1, c1, rfl, hown1, hb1⟩; dsimp only at hown1; dsimp only; obtain ⟨hc1, hf1⟩ := bcell hb1; have hz1 := hb1.size; (try simp at hz1); have hz1a : w.heap.size + 1 < w1.heap.size := zO)
 all_goals
   have HO1 := Lib.hid (own_le hown1 (show w.heap.size + 2 ≤ _ by simp))
   have HB1 := Lib.hid (show Below w.heap.size w w1 by (repeat (first | exact Below.refl _ _ | refine Below.alloc ?_ zo _ | refine Below.drew ?_ | refine Below.trans ?_ (Below.mono (by assumption) zo))))
   clear hown1 hb1
   go_wp2_with fail
   refine bodyPost_ret (v := .tuple #[.agg #[.int .i64 r, .int .i64 s, .slice a1 M.length c1], .bool true]) (by simp [results, Tryz.results89, go_sem] <;> go_simp) rfl ⟨a1, c1, rfl, ?_, ?_⟩
   · exact ((((IsPairs.of_owns HO1.out).set (p := ⟨w.heap.size + 1, 0, none⟩) (by show w.heap.size + 1 < _; omega) _).set (p := ⟨w.heap.size + 1, 1, none⟩) (by show w.heap.size + 1 < _; omega) _).set (p := ⟨w.heap.size + 1, 2, none⟩) (by show w.heap.size + 1 < _; omega) _).mono zO (by simp) (Nat.le_refl _)
   · exact ((HB1.out.setCell zs _).setCell zs _).setCell zs _
end Go.Proofs.YtblphilcmfabkaaGreatDoor
