/- Contracts and laws that the statement's proof stands on, one text behind the other. -/
import Derived.Test.YtblphilcmfabkaaGreatDoorAla1
import Derived.Test.YtblphilcmfabkaaGreatDoorHwDeskDoT
import Derived.Test.YtblphilcmfabkaaGreatDoorHwDeskDoS
import Derived.Test.YtblphilcmfabkaaGreatDoorHwDeskDoI
import Derived.Test.YtblphilcmfabkaaGreatDoorHwDeskLaid
import Derived.Test.YtblphilcmfabkaaGreatDoorHwDeskBy
import Derived.Deep.RegionHeld3

namespace Go.Proofs.YtblphilcmfabkaaGreatDoor
open Go.RowKit
def DeskDrawn (w : World) (R k : Nat) (e : Ending) (w' : World) : Prop :=
 ∃ (p q : Int) (a : Option Addr) (c : Nat) (L : List (Int × Int)), e = .returned (.agg #[.int .i64 p, .int .i64 q, .slice a L.length c]) ∧ IsPairs w.heap.size w'.heap.size w' (.slice a L.length c) L ∧ L.length ≤ 6 ∧ Rd w' R (k + 40) ∧ w.grownBy w' (some R)
theorem deskNew_spec (p q : Int) : ∃ (r s : Int) (ok : Bool), ∀ w, Calls Tryz.prog 83 #[pr p q] w fun e w' => e = .returned (.tuple #[.agg #[.int .i64 r, .int .i64 s, .slice none 0 0], .bool ok]) ∧ Below w.heap.size w w' := by
 have h := specDeskNew_any p q
 cases hb : pairB p q with
 | true => exact ⟨p, q, true, fun w => by have := h w; rw [hb, if_pos rfl] at this; exact this⟩
 | false => exact ⟨0, 0, false, fun w => by have := h w; rw [hb, if_neg zd] at this; exact this⟩
theorem rd_setD {w : World} {R k b o : Nat} (h : Rd w R k) (hq : R < b) (u : Value) : Rd (w.setCell ⟨b, o, none⟩ u) R k := h.set hq u
theorem gr_setD {w w1 : World} {R b o : Nat} (h : w.grownBy w1 (some R)) (hp : w.heap.size ≤ b) (v : Value) : w.grownBy (w1.setCell ⟨b, o, none⟩ v) (some R) := gr_set h hp v
theorem rd_drewD {w : World} {R k : Nat} (h : Rd w R k) : Rd w.drew R k := h
theorem pairs_grows {B C R : Nat} {w w' : World} {v : Value} {L : List (Int × Int)} (h : IsPairs B C w v L) (hg : w.grownBy w' (some R)) (hR : R < B) : IsPairs B C w' v L := by
 have hC : C ≤ w.heap.size := by obtain ⟨_, _, _, hC, _⟩ := id h; exact hC
 exact h.far hg.size (fun g h1 h2 => hg.block g zO (fun e => by injection e; omega))
theorem doR_more (d : DeskN) (x : DeedN) : (doR d x).1.past.length ≤ d.past.length + 1 := by
 cases hd : deskN d with
 | false => rw [doR_no hd]; simp
 | true =>
   rw [doR_yes hd]
   unfold doN
   split
   · split
     · simp
     · first | (simp; done) | (simp; omega)
   · split
     · first | (simp; done) | (simp; omega)
     · simp
set_option maxRecDepth 100000 in
set_option maxHeartbeats 8000000 in
theorem l20Desk_any (R k : Nat) (n : Int) (w : World) (h : Rd w R k) (hk : k ≤ 800000) (hn : n ≤ 1000000) :
   Calls Tryz.prog 46 #[.pointer (some ⟨R, 0, none⟩), .int .i64 n] w (DeskDrawn w R k) := by
 obtain ⟨i0, hi0, hz0, hzs1, hz2⟩ := info_parts info_pair
 have hRlt := h.lt
 have hRne : ¬ w.heap.size = R := by omega
 go_enter Tryz.func46, Tryz.ntmps46
 go_wp2_with fail
 refine (l20Pair_any R k 0 _ (h.alloc _) zO zO).mono ?_
 rintro e w1 ⟨p0, q0, rfl, _, _, _, _, hR1, hh1⟩
 obtain ⟨hc1, hf1⟩ := gcell hh1
 have hz1 := hh1.size
 simp at hz1
 have hw1 : w.heap.size < w1.heap.size := by omega
 have r0 : w1.cell? ⟨w.heap.size, 0, none⟩ = some (.int .i64 0) := by go_simp
 have fr0 : w1.frozen? ⟨w.heap.size, 0, none⟩ = false := by go_simp
 have r1 : w1.cell? ⟨w.heap.size, 1, none⟩ = some (.int .i64 0) := by go_simp
 have fr1 : w1.frozen? ⟨w.heap.size, 1, none⟩ = false := by go_simp
 have r2 : w1.cell? ⟨w.heap.size, 2, none⟩ = some (.slice none 0 0) := by go_simp
 have fr2 : w1.frozen? ⟨w.heap.size, 2, none⟩ = false := by go_simp
 have hg1 := gr_trans (gr_alloc (gr_refl w R) _) hh1
 clear hc1 hf1 hh1
 obtain ⟨rp, rq, ok0, hS0⟩ := deskNew_spec p0 q0
 have HS0 := Lib.hid hS0
 clear hS0
 go_wp2_with fail
 refine (HS0.out _).mono ?_
 rintro e w2 ⟨rfl, hb2⟩
 obtain ⟨hc2, hf2⟩ := bcell hb2
 have hz2' := hb2.size
 have hw2 : w.heap.size < w2.heap.size := by omega
 have hR2 := hR1.below hb2 (Nat.le_refl _)
 have hg2 := gr_below hg1 hb2
 have r0 : w2.cell? ⟨w.heap.size, 0, none⟩ = some (.int .i64 0) := by go_simp
 have fr0 : w2.frozen? ⟨w.heap.size, 0, none⟩ = false := by go_simp
 have r1 : w2.cell? ⟨w.heap.size, 1, none⟩ = some (.int .i64 0) := by go_simp
 have fr1 : w2.frozen? ⟨w.heap.size, 1, none⟩ = false := by go_simp
 have r2 : w2.cell? ⟨w.heap.size, 2, none⟩ = some (.slice none 0 0) := by go_simp
 have fr2 : w2.frozen? ⟨w.heap.size, 2, none⟩ = false := by go_simp
 clear hc2 hf2 hb2 hR1 hg1
 go_wp2_with fail
 refine (pick_any R (k + 5) 6 _ (hR2.alloc _) zO zO).mono ?_
 rintro e w3 ⟨v, rfl, va, vb, hR3, hh3⟩
 obtain ⟨hc3, hf3⟩ := gcell hh3
 have hz3 := hh3.size
 simp at hz3
 have hw3 : w.heap.size < w3.heap.size := by omega
 have hT3 : w2.heap.size < w3.heap.size := by omega
 have hRT : ¬ w2.heap.size = R := by omega
 have hg3 := gr_trans (gr_alloc hg2 (.cells #[.int .i64 rp, .int .i64 rq, .slice none 0 0] 32)) hh3
 have r0 : w3.cell? ⟨w.heap.size, 0, none⟩ = some (.int .i64 0) := by go_simp
 have fr0 : w3.frozen? ⟨w.heap.size, 0, none⟩ = false := by go_simp
 have r1 : w3.cell? ⟨w.heap.size, 1, none⟩ = some (.int .i64 0) := by go_simp
 have fr1 : w3.frozen? ⟨w.heap.size, 1, none⟩ = false := by go_simp
 have r2 : w3.cell? ⟨w.heap.size, 2, none⟩ = some (.slice none 0 0) := by go_simp
 have fr2 : w3.frozen? ⟨w.heap.size, 2, none⟩ = false := by go_simp
 have d0 : w3.cell? ⟨w2.heap.size, 0, none⟩ = some (.int .i64 rp) := by go_simp
 have fd0 : w3.frozen? ⟨w2.heap.size, 0, none⟩ = false := by go_simp
 have d1 : w3.cell? ⟨w2.heap.size, 1, none⟩ = some (.int .i64 rq) := by go_simp
 have fd1 : w3.frozen? ⟨w2.heap.size, 1, none⟩ = false := by go_simp
 have d2 : w3.cell? ⟨w2.heap.size, 2, none⟩ = some (.slice none 0 0) := by go_simp
 have fd2 : w3.frozen? ⟨w2.heap.size, 2, none⟩ = false := by go_simp
 obtain ⟨n5, rfl⟩ : ∃ n : Nat, v = (n : Int) := ⟨v.toNat, by omega⟩
 have hn5 : n5 ≤ 5 := by omega
 clear hc3 hf3 hh3 hR2 hg2 va vb
 go_wp2_with fail
 go_loopw [7] (fun x7 wr => ∃ (j i : Nat) (p q : Int) (L : List (Int × Int)) (a : Option Addr) (c : Nat), x7 = .int .i64 j ∧ i + j = n5 ∧ L.length ≤ i ∧ (wr.cell? ⟨w2.heap.size, 0, none⟩ = some (.int .i64 p) ∧ wr.cell? ⟨w2.heap.size, 1, none⟩ = some (.int .i64 q) ∧ wr.cell? ⟨w2.heap.size, 2, none⟩ = some (.slice a L.length c) ∧ wr.frozen? ⟨w2.heap.size, 0, none⟩ = false ∧ wr.frozen? ⟨w2.heap.size, 1, none⟩ = false ∧ wr.frozen? ⟨w2.heap.size, 2, none⟩ = false) ∧ (wr.cell? ⟨w.heap.size, 0, none⟩ = some (.int .i64 0) ∧ wr.cell? ⟨w.heap.size, 1, none⟩ = some (.int .i64 0) ∧ wr.cell? ⟨w.heap.size, 2, none⟩ = some (.slice none 0 0) ∧ wr.frozen? ⟨w.heap.size, 0, none⟩ = false ∧ wr.frozen? ⟨w.heap.size, 1, none⟩ = false ∧ wr.frozen? ⟨w.heap.size, 2, none⟩ = false) ∧ wr.ownsRow (w2.heap.size + 1) 29 2 (.slice a L.length c) L.length (pairCells L) ∧ w2.heap.size < wr.heap.size ∧ Rd wr R (k + 6 + 6 * i) ∧ w.grownBy wr (some R)) (fun x7 _ => (intOf x7).toNat)
 case atStart => exact ⟨n5, 0, rp, rq, [], none, 0, rfl, by omega, by simp, ⟨d0, d1, d2, fd0, fd1, fd2⟩, ⟨r0, r1, r2, fr0, fr1, fr2⟩, World.ownsRow_nil _ _ _ _, hT3, hR3, hg3⟩
 case round =>
   obtain ⟨j, i, p, q, L, a, c, rfl, hij, hLi, ⟨e0, e1, e2, fe0, fe1, fe2⟩, ⟨s0, s1, s2, fs0, fs1, fs2⟩, hO, hT, hR, hg⟩ := hrel
   clear d0 d1 d2 fd0 fd1 fd2 r0 r1 r2 fr0 fr1 fr2 hR3 hg3
   rcases Nat.eq_zero_or_pos j with rfl | hjp
   · have HO := Lib.hid hO
     have hwr : w.heap.size < wr.heap.size := by omega
     have hRb : R < w2.heap.size + 1 := by omega
     clear hO
     go_wp2_with fail
     refine (odd_any R (k + 6 + 6 * i) n _ hR zO zO).mono ?_
     rintro e w5 ⟨bb, rfl, hR5, hh5⟩
     obtain ⟨hc5, hf5⟩ := gcell hh5
     have hz5 := hh5.size
     have e0' := (hc5 w2.heap.size 0 hT hRT).trans e0
     have e1' := (hc5 w2.heap.size 1 hT hRT).trans e1
     have e2' := (hc5 w2.heap.size 2 hT hRT).trans e2
     have fe0' := (hf5 w2.heap.size 0 hT hRT).trans fe0
     have fe1' := (hf5 w2.heap.size 1 hT hRT).trans fe1
     have fe2' := (hf5 w2.heap.size 2 hT hRT).trans fe2
     have s0' := (hc5 w.heap.size 0 hwr hRne).trans s0
     have s1' := (hc5 w.heap.size 1 hwr hRne).trans s1
     have s2' := (hc5 w.heap.size 2 hwr hRne).trans s2
     have fs0' := (hf5 w.heap.size 0 hwr hRne).trans fs0
     have fs1' := (hf5 w.heap.size 1 hwr hRne).trans fs1
     have fs2' := (hf5 w.heap.size 2 hwr hRne).trans fs2
     have hO6 := own_grows HO.out hh5 hRb
     have hg6 := gr_trans hg hh5
     have HP6 := Lib.hid (IsPairs.of_owns hO6)
     have HO6 := Lib.hid hO6
     have hT5 : w2.heap.size < w5.heap.size := by omega
     have hwT' : ¬ w.heap.size = w2.heap.size := by omega
     clear hc5 hf5 e0 e1 e2 fe0 fe1 fe2 s0 s1 s2 fs0 fs1 fs2 HO hg hh5 hO6 hR
     cases bb with
     | true =>
       go_wp2_with fail
       refine (pick_any R (k + 6 + 6 * i + 1) 2 _ hR5 zO zO).mono ?_
       rintro e w6 ⟨v, rfl, va, vb, hR6, hh6⟩
       obtain ⟨hc6, hf6⟩ := gcell hh6
       have hz6 := hh6.size
       have hw5 : w.heap.size < w5.heap.size := by omega
       have e0x := (hc6 w2.heap.size 0 hT5 hRT).trans e0'
       have fe0x := (hf6 w2.heap.size 0 hT5 hRT).trans fe0'
       have e1x := (hc6 w2.heap.size 1 hT5 hRT).trans e1'
       have fe1x := (hf6 w2.heap.size 1 hT5 hRT).trans fe1'
       have e2x := (hc6 w2.heap.size 2 hT5 hRT).trans e2'
       have fe2x := (hf6 w2.heap.size 2 hT5 hRT).trans fe2'
       have s0x := (hc6 w.heap.size 0 hw5 hRne).trans s0'
       have fs0x := (hf6 w.heap.size 0 hw5 hRne).trans fs0'
       have s1x := (hc6 w.heap.size 1 hw5 hRne).trans s1'
       have fs1x := (hf6 w.heap.size 1 hw5 hRne).trans fs1'
       have s2x := (hc6 w.heap.size 2 hw5 hRne).trans s2'
       have fs2x := (hf6 w.heap.size 2 hw5 hRne).trans fs2'
       have hO7 := own_grows HO6.out hh6 hRb
       have hg7 := gr_trans hg6 hh6
       have HP7 := Lib.hid (IsPairs.of_owns hO7)
       have HO7 := Lib.hid hO7
       have hT6 : w2.heap.size < w6.heap.size := by omega
       have hwT : w.heap.size ≤ w2.heap.size := by omega
       have hRT' : R < w2.heap.size := by omega
       have hw6 : w.heap.size < w6.heap.size := by omega
       clear hc6 hf6 e0' e1' e2' fe0' fe1' fe2' s0' s1' s2' fs0' fs1' fs2' hh6 hO7 HO6 HP6 hR5 hg6
       rcases (show v = 0 ∨ v = 1 by omega) with rfl | rfl
       · go_wp2_with fail
         refine bodyPost_ret (v := .agg #[.int .i64 5, .int .i64 q, .slice a L.length c]) (by simp [results, Tryz.results46, go_sem]; go_simp) rfl ⟨5, q, a, c, L, rfl, ?_, by omega, ?_, ?_⟩
         · exact ((((HP7.out.set (p := ⟨w2.heap.size, 0, none⟩) (by show w2.heap.size < _; omega) _).set (p := ⟨w.heap.size, 0, none⟩) (by show w.heap.size < _; omega) _).set (p := ⟨w.heap.size, 1, none⟩) (by show w.heap.size < _; omega) _).set (p := ⟨w.heap.size, 2, none⟩) (by show w.heap.size < _; omega) _).mono zO (by simp [World.setCell]) (by simp [World.setCell])
         · exact Rd.mono (rd_setD (rd_setD (rd_setD (rd_setD hR6 hRT' _) hRlt _) hRlt _) hRlt _) zO
         · exact gr_setD (gr_setD (gr_setD (gr_setD hg7 hwT _) (Nat.le_refl _) _) (Nat.le_refl _) _) (Nat.le_refl _) _
       · go_wp2_with (at_builtin; refine wpList_append_pairs _ rfl _ _ 30 rfl (w2.heap.size + 1) 29 i0 _ 16 Tryz.underlying30 hi0 hz0 hzs1 hz2 rfl (.slice a L.length c) L.length (pairCells L) rfl (HO7.out.alloc _) w6.heap.size (w6.heap.size + 1) _ [(0, 5)] rfl (IsPairs.new _ 0 5 _ _ rfl) (L.length + 1) rfl (pairCells (L ++ [(0, 5)])) (pairCells_append _ _) (by unfold maxLen; omega) zO (by simp; omega) ?_)
         intro a7 c7 w7 hown7 hgrow7 hat7
         have hb7 : Below (w2.heap.size + 1) (w6.alloc (.cells #[.int .i64 0, .int .i64 5] 29)) w7 := (Below.refl _ _).grown hgrow7 (by simp; omega) (fun g e => (HO7.out.lt g e).1)
         have hR7 := rd_under (hR6.alloc (.cells #[.int .i64 0, .int .i64 5] 29)) hb7 hRb
         have hg8 : w.grownBy w7 (some R) := gr_own (gr_alloc hg7 _) hgrow7 (fun g e => by have := (HO7.out.lt g e).1; omega)
         have hz7 := hb7.size
         simp at hz7
         have e0y := (hb7.cell (p := ⟨w2.heap.size, 0, none⟩) (by show w2.heap.size < _; omega)).trans (cell_alloc_is _ e0x)
         have fe0y := (hb7.frozen (p := ⟨w2.heap.size, 0, none⟩) (by show w2.heap.size < _; omega)).trans ((frozen?_alloc_cells _ _ _ _).trans fe0x)
         have e1y := (hb7.cell (p := ⟨w2.heap.size, 1, none⟩) (by show w2.heap.size < _; omega)).trans (cell_alloc_is _ e1x)
         have fe1y := (hb7.frozen (p := ⟨w2.heap.size, 1, none⟩) (by show w2.heap.size < _; omega)).trans ((frozen?_alloc_cells _ _ _ _).trans fe1x)
         have e2y := (hb7.cell (p := ⟨w2.heap.size, 2, none⟩) (by show w2.heap.size < _; omega)).trans (cell_alloc_is _ e2x)
         have fe2y := (hb7.frozen (p := ⟨w2.heap.size, 2, none⟩) (by show w2.heap.size < _; omega)).trans ((frozen?_alloc_cells _ _ _ _).trans fe2x)
         have s0y := (hb7.cell (p := ⟨w.heap.size, 0, none⟩) (by show w.heap.size < _; omega)).trans (cell_alloc_is _ s0x)
         have fs0y := (hb7.frozen (p := ⟨w.heap.size, 0, none⟩) (by show w.heap.size < _; omega)).trans ((frozen?_alloc_cells _ _ _ _).trans fs0x)
         have s1y := (hb7.cell (p := ⟨w.heap.size, 1, none⟩) (by show w.heap.size < _; omega)).trans (cell_alloc_is _ s1x)
         have fs1y := (hb7.frozen (p := ⟨w.heap.size, 1, none⟩) (by show w.heap.size < _; omega)).trans ((frozen?_alloc_cells _ _ _ _).trans fs1x)
         have s2y := (hb7.cell (p := ⟨w.heap.size, 2, none⟩) (by show w.heap.size < _; omega)).trans (cell_alloc_is _ s2x)
         have fs2y := (hb7.frozen (p := ⟨w.heap.size, 2, none⟩) (by show w.heap.size < _; omega)).trans ((frozen?_alloc_cells _ _ _ _).trans fs2x)
         have hw7 : w.heap.size < w7.heap.size := by omega
         have hT7 : w2.heap.size < w7.heap.size := by omega
         have HP8 := Lib.hid (IsPairs.of_owns hown7)
         clear hown7 hgrow7 hat7 hb7 HO7 HP7 e0x e1x e2x fe0x fe1x fe2x s0x s1x s2x fs0x fs1x fs2x
         go_wp2_with fail
         refine bodyPost_ret (v := .agg #[.int .i64 p, .int .i64 q, .slice a7 (L.length + 1) c7]) (by simp [results, Tryz.results46, go_sem]; go_simp) rfl ⟨p, q, a7, c7, L ++ [(0, 5)], by simp, ?_, by simp; omega, ?_, ?_⟩
         · rw [List.length_append, show ([((0 : Int), (5 : Int))] : List (Int × Int)).length = 1 from rfl]
           exact ((((HP8.out.set (p := ⟨w2.heap.size, 2, none⟩) (by show w2.heap.size < _; omega) _).set (p := ⟨w.heap.size, 0, none⟩) (by show w.heap.size < _; omega) _).set (p := ⟨w.heap.size, 1, none⟩) (by show w.heap.size < _; omega) _).set (p := ⟨w.heap.size, 2, none⟩) (by show w.heap.size < _; omega) _).mono zO (by simp [World.setCell]) (by simp [World.setCell])
         · exact Rd.mono (rd_setD (rd_setD (rd_setD (rd_setD hR7 hRT' _) hRlt _) hRlt _) hRlt _) zO
         · exact gr_setD (gr_setD (gr_setD (gr_setD hg8 hwT _) (Nat.le_refl _) _) (Nat.le_refl _) _) (Nat.le_refl _) _
     | false =>
       go_wp2_with fail
       refine bodyPost_ret (v := .agg #[.int .i64 p, .int .i64 q, .slice a L.length c]) (by simp [results, Tryz.results46, go_sem]; go_simp) rfl ⟨p, q, a, c, L, rfl, ?_, by omega, ?_, ?_⟩
       · exact (((HP6.out.set (p := ⟨w.heap.size, 0, none⟩) (by show w.heap.size < _; omega) _).set (p := ⟨w.heap.size, 1, none⟩) (by show w.heap.size < _; omega) _).set (p := ⟨w.heap.size, 2, none⟩) (by show w.heap.size < _; omega) _).mono zO (by simp [World.setCell]) (by simp [World.setCell])
       · exact Rd.mono (rd_setD (rd_setD (rd_setD hR5 hRlt _) hRlt _) hRlt _) zO
       · exact gr_setD (gr_setD (gr_setD hg6 (Nat.le_refl _) _) (Nat.le_refl _) _) (Nat.le_refl _) _
   · have hj0 : (0 : Int) < (j : Int) := by omega
     have wj : IntKind.i64.wrap ((j : Int) - 1) = ((j - 1 : Nat) : Int) := by rw [IntKind.wrap_i64]; omega
     have hcall := fun (W : World) (D D' : Nat) (x y z : Int) (hI : IsPairs D D' W (.slice a L.length c) L) => specDo_any D D' p q x y z L _ W hI zO
     unfold DidS at hcall
     have HS := Lib.hid hcall
     have HP := Lib.hid (IsPairs.of_owns hO)
     have HO := Lib.hid hO
     have hL8 : L.length < 8 := by omega
     have hRb : R < w2.heap.size + 1 := by omega
     clear hcall hO
     go_wp2_with fail
     go_cut [8, 9] from 18 to 30 (fun s8 s9 wx => ∃ (b : Nat) (x y z : Int) (a5 : Option Addr) (c5 : Nat), s8 = .pointer (some ⟨b, 0, none⟩) ∧ s9 = .bool (doR ⟨(p, q), L⟩ ⟨x, y, z⟩).2 ∧ (wr.heap.size ≤ b ∧ b < wx.heap.size) ∧ (wx.cell? ⟨b, 0, none⟩ = some (.int .i64 (doR ⟨(p, q), L⟩ ⟨x, y, z⟩).1.now.1) ∧ wx.cell? ⟨b, 1, none⟩ = some (.int .i64 (doR ⟨(p, q), L⟩ ⟨x, y, z⟩).1.now.2) ∧ wx.cell? ⟨b, 2, none⟩ = some (.slice a5 (doR ⟨(p, q), L⟩ ⟨x, y, z⟩).1.past.length c5)) ∧ wx.ownsRow wr.heap.size 29 2 (.slice a5 (doR ⟨(p, q), L⟩ ⟨x, y, z⟩).1.past.length c5) (doR ⟨(p, q), L⟩ ⟨x, y, z⟩).1.past.length (pairCells (doR ⟨(p, q), L⟩ ⟨x, y, z⟩).1.past) ∧ Rd wx R (k + 6 + 6 * i + 6) ∧ wr.grownBy wx (some R))
     case first =>
       go_region_held3 (fun W_ => W_.cell? ⟨w2.heap.size, 0, none⟩ = some (.int .i64 p) ∧ W_.cell? ⟨w2.heap.size, 1, none⟩ = some (.int .i64 q) ∧ W_.cell? ⟨w2.heap.size, 2, none⟩ = some (.slice a L.length c))
         ((go_split_ands; refine ⟨?_, ?_, ?_⟩ <;> (repeat (first | with_reducible assumption | with_reducible refine cell_alloc_is _ ?_ | with_reducible refine cell_drew_is ?_ | with_reducible refine cell_set_is ?_ ?_ | omega)); done))
         ((first | (go_at_call 85; refine (l20Deed_any R (k + 6 + 6 * i) _ (by (repeat (first | with_reducible assumption | with_reducible apply rd_drewD | with_reducible apply Rd.alloc))) zO).mono ?_; rintro e w_2 ⟨x, y, z, rfl, hR_2, hh_2⟩; obtain ⟨hc_2, hf_2⟩ := gcell hh_2; have hz_2 := hh_2.size; (try simp at hz_2); (have hq_2 : wr.heap.size ≤ w_2.heap.size := by omega); (try have hq_2b : wr.heap.size < w_2.heap.size := by omega); (have hne_2 : ¬ wr.heap.size = R := by omega); (have hne_3 : ¬ w_2.heap.size = R := by omega); (have hP_2 := pairs_grows (show IsPairs (w2.heap.size + 1) wr.heap.size _ (.slice a L.length c) L by (repeat (first | exact HP.out | apply IsPairs.allocd | apply IsPairs.drew))) hh_2 hRb); have kx0 := (hh_2.cell_far ⟨w2.heap.size, 0, none⟩ zo (by simpa using hRT)).trans (show _ = some (.int .i64 p) by (repeat (first | with_reducible assumption | with_reducible refine cell_alloc_is _ ?_ | with_reducible refine cell_drew_is ?_ | with_reducible refine cell_set_is ?_ ?_ | omega))); have kx1 := (hh_2.cell_far ⟨w2.heap.size, 1, none⟩ zo (by simpa using hRT)).trans (show _ = some (.int .i64 q) by (repeat (first | with_reducible assumption | with_reducible refine cell_alloc_is _ ?_ | with_reducible refine cell_drew_is ?_ | with_reducible refine cell_set_is ?_ ?_ | omega))); have kx2 := (hh_2.cell_far ⟨w2.heap.size, 2, none⟩ zo (by simpa using hRT)).trans (show _ = some (.slice a L.length c) by (repeat (first | with_reducible assumption | with_reducible refine cell_alloc_is _ ?_ | with_reducible refine cell_drew_is ?_ | with_reducible refine cell_set_is ?_ ?_ | omega)))) | (go_at_call 63; refine (HS.out _ _ _ x y z (by (repeat (first | exact hP_2 | apply IsPairs.allocd)))).mono ?_; rintro e w_4 ⟨a4, c4, rfl, hI4, hO4, hb_4⟩; obtain ⟨hc_4, hf_4⟩ := bcell hb_4; have hz_4 := hb_4.size; (try simp at hz_4); (try have hq_4 : wr.heap.size < w_4.heap.size := by omega); (try have hq_4b : w_2.heap.size < w_4.heap.size := by omega); have kx0 := (hb_4.cell (p := ⟨w2.heap.size, 0, none⟩) zo).trans (show _ = some (.int .i64 p) by (repeat (first | with_reducible assumption | with_reducible refine cell_alloc_is _ ?_ | with_reducible refine cell_drew_is ?_ | with_reducible refine cell_set_is ?_ ?_ | omega))); have kx1 := (hb_4.cell (p := ⟨w2.heap.size, 1, none⟩) zo).trans (show _ = some (.int .i64 q) by (repeat (first | with_reducible assumption | with_reducible refine cell_alloc_is _ ?_ | with_reducible refine cell_drew_is ?_ | with_reducible refine cell_set_is ?_ ?_ | omega))); have kx2 := (hb_4.cell (p := ⟨w2.heap.size, 2, none⟩) zo).trans (show _ = some (.slice a L.length c) by (repeat (first | with_reducible assumption | with_reducible refine cell_alloc_is _ ?_ | with_reducible refine cell_drew_is ?_ | with_reducible refine cell_set_is ?_ ?_ | omega)))) | fail))
       all_goals (go_wp2_with fail; go_meet)
       all_goals
         case rel =>
           have hlt4 := (hO4 hL8).lt
           refine ⟨_, x, y, z, a4, c4, rfl, rfl, ⟨?_, ?_⟩, ⟨?_, ?_, ?_⟩, ?_, ?_, ?_⟩
           · first | omega | (simp <;> omega)
           · first | omega | (simp <;> omega)
           · go_simp
           · go_simp
           · go_simp
           · first
               | exact (own_le (base' := wr.heap.size) (hO4 hL8) zo).alloc _
               | (refine ownsRow_setCell_other (ownsRow_setCell_other (ownsRow_setCell_other (own_le (base' := wr.heap.size) (hO4 hL8) zo) ?_ _) ?_ _) ?_ _ <;> (intro e; have := hlt4 _ e; simp at this; omega))
           · (repeat (first | with_reducible assumption | with_reducible apply rd_setD | with_reducible apply Rd.alloc | refine Rd.below ?_ hb_4 (Nat.le_refl _) | omega))
           · (repeat (first | with_reducible exact gr_refl _ _ | with_reducible apply gr_setD | with_reducible apply gr_alloc | refine gr_below ?_ hb_4 | refine gr_trans ?_ hh_2 | with_reducible apply gr_drew | omega))
     case rest =>
       obtain ⟨b, x, y, z, a5, c5, rfl, rfl, ⟨hb1, hb2⟩, ⟨q0', q1', q2'⟩, hO5, hR5, hg5⟩ := hcut
       rename World => w5
       obtain ⟨hc5, hf5⟩ := gcell hg5
       have hz5 := hg5.size
       have hwr : w.heap.size < wr.heap.size := by omega
       have e0' := (hc5 w2.heap.size 0 hT hRT).trans e0
       have e1' := (hc5 w2.heap.size 1 hT hRT).trans e1
       have e2' := (hc5 w2.heap.size 2 hT hRT).trans e2
       have fe0' := (hf5 w2.heap.size 0 hT hRT).trans fe0
       have fe1' := (hf5 w2.heap.size 1 hT hRT).trans fe1
       have fe2' := (hf5 w2.heap.size 2 hT hRT).trans fe2
       have s0' := (hc5 w.heap.size 0 hwr hRne).trans s0
       have s1' := (hc5 w.heap.size 1 hwr hRne).trans s1
       have s2' := (hc5 w.heap.size 2 hwr hRne).trans s2
       have fs0' := (hf5 w.heap.size 0 hwr hRne).trans fs0
       have fs1' := (hf5 w.heap.size 1 hwr hRne).trans fs1
       have fs2' := (hf5 w.heap.size 2 hwr hRne).trans fs2
       have hm := doR_more ⟨(p, q), L⟩ ⟨x, y, z⟩
       have hO6 := own_grows HO.out hg5 hRb
       have hg6 := gr_trans hg hg5
       have hT5 : w2.heap.size < w5.heap.size := by omega
       have hwT : w.heap.size ≤ w2.heap.size := by omega
       have hRT' : R < w2.heap.size := by omega
       have hwT' : ¬ w.heap.size = w2.heap.size := by omega
       obtain ⟨p', q', L', ok, hres⟩ : ∃ p' q' L' ok, doR ⟨(p, q), L⟩ ⟨x, y, z⟩ = (⟨(p', q'), L'⟩, ok) := ⟨_, _, _, _, rfl⟩
       rw [hres] at hm q0' q1' q2' hO5
       rw [hres]
       dsimp only at hm q0' q1' q2' hO5 ⊢
       have hne5 : ∀ g, (Value.slice a5 L'.length c5).ownBlock = some g → w2.heap.size < g := fun g e => by have := (hO5.lt g e).1; omega
       have HO5 := Lib.hid (own_le (base' := w2.heap.size + 1) hO5 zO)
       have HO6 := Lib.hid hO6
       clear hc5 hf5 e0 e1 e2 fe0 fe1 fe2 s0 s1 s2 fs0 fs1 fs2 HS HP HO hg hg5 hO5 hO6 hres hR
       cases ok with
       | true =>
         go_wp2_with fail
         go_roundw
         case rel =>
           refine ⟨j - 1, i + 1, p', q', L', a5, c5, rfl, by omega, by omega, ⟨by go_simp, by go_simp, by go_simp, by go_simp, by go_simp, by go_simp⟩, ⟨by go_simp, by go_simp, by go_simp, by go_simp, by go_simp, by go_simp⟩, ?_, by simp [World.setCell]; omega, ?_, ?_⟩
           · refine ownsRow_setCell_other (ownsRow_setCell_other (ownsRow_setCell_other HO5.out ?_ _) ?_ _) ?_ _ <;> (intro e; exact absurd (hne5 _ e) (Nat.lt_irrefl _))
           · exact Rd.mono (rd_setD (rd_setD (rd_setD hR5 hRT' _) hRT' _) hRT' _) zO
           · exact gr_setD (gr_setD (gr_setD hg6 hwT _) hwT _) hwT _
         case measure => simp [intOf]; omega
       | false =>
         go_wp2_with fail
         go_roundw
         case rel => exact ⟨j - 1, i + 1, p, q, L, a, c, rfl, by omega, by omega, ⟨e0', e1', e2', fe0', fe1', fe2'⟩, ⟨s0', s1', s2', fs0', fs1', fs2'⟩, HO6.out, hT5, hR5.mono zO, hg6⟩
         case measure => simp [intOf]; omega
end Go.Proofs.YtblphilcmfabkaaGreatDoor
